/- The reference: rows by the places of their pivots. -/
import Derived.Test.YtdedolkgcdlmeaaGreatDoorRowO
import Derived.Test.YtdedolkgcdlmeaaGreatDoorRefForm
import Derived.Laws.MakeOwn
namespace Go.Proofs.YtdedolkgcdlmeaaGreatDoor
open Go.RowKit Limbs Digs

theorem RowR.setTyped {w : World} {v : Value} {zs : List Int} {n : Nat} (h : RowR w v zs n) {B : Nat} {c : Array Value} {t : TypeId} {fz : Nat × Nat} (hB : w.heap[B]? = some (.cells c t fz)) (h1 : t ≠ 3) (h2 : t ≠ 40) (k : Nat) (u : Value) : RowR (w.setCell ⟨B, k, none⟩ u) v zs n := by
  obtain ⟨ao, cap, hv, h3, h4⟩ := h
  refine ⟨ao, cap, hv, h3, fun h0 => ?_⟩
  obtain ⟨b, cur, fz', e, hh, hc⟩ := h4 h0
  have hne : b ≠ B := fun e => by
    subst e
    rw [hh] at hB
    simp only [Option.some.injEq, Obj.cells.injEq] at hB
    exact h2 hB.2.1.symm
  refine ⟨b, cur, fz', e, (heap_setCell_other w ⟨B, k, none⟩ b u hne).trans hh, fun i hi => ?_⟩
  obtain ⟨s, o, l, c', h5, h6, h7⟩ := hc i hi
  exact ⟨s, o, l, c', (World.cell?_setCell_other (h := fun e => by simp at e <;> omega) ..).trans h5, (World.cell?_setCell_other (h := fun e => by simp at e <;> omega) ..).trans h6, h7.setTyped hB h1 k u⟩

theorem RowR.mono {w : World} {v : Value} {zs : List Int} {n m : Nat} (h : RowR w v zs n) (hm : n ≤ m) : RowR w v zs m := by
  obtain ⟨ao, cap, hv, h3, h4⟩ := h
  refine ⟨ao, cap, hv, h3, fun h0 => ?_⟩
  obtain ⟨b, cur, fz', e, hh, hc⟩ := h4 h0
  refine ⟨b, cur, fz', e, hh, fun i hi => ?_⟩
  obtain ⟨s, o, l, c', h5, h6, h7⟩ := hc i hi
  exact ⟨s, o, l, c', h5, h6, h7.mono hm⟩

theorem RowR.form {w : World} {v : Value} {zs : List Int} {n : Nat} (h : RowR w v zs n) (h0 : 0 < zs.length) : ∃ b cap, v = .slice (some ⟨b, 0, none⟩) zs.length cap := by
  obtain ⟨ao, cap, rfl, h3, h4⟩ := h
  obtain ⟨b, -, -, rfl, -⟩ := h4 h0
  exact ⟨b, cap, rfl⟩

/-- How many digits, step by step. -/
def dT (a : Nat) : Nat → Nat
  | 0 => a
  | j + 1 => 2 * dT a j + 8

theorem dT_mono {a i j : Nat} (h : i ≤ j) : dT a i ≤ dT a j := by
  induction j with
  | zero => obtain rfl : i = 0 := by omega
            exact Nat.le_refl _
  | succ j ih =>
    by_cases e : i = j + 1
    · rw [e]; exact Nat.le_refl _
    · have := ih (by omega)
      show dT a i ≤ 2 * dT a j + 8
      omega

/-- Rows of the reference by their pivots' places, in a block of one's own. -/
structure StairR (w W : World) (sb n : Nat) (R : Nat → Option (List Int)) (D : Nat → Nat) : Prop where
  low : w.heap.size ≤ sb
  below : Below w.heap.size w W
  blk : ∃ cs, W.heap[sb]? = some (.cells cs 106)
  nil : ∀ i, i < n → R i = none → W.cell? ⟨sb, i, none⟩ = some (.slice none 0 0)
  row : ∀ i, i < n → ∀ r, R i = some r → ∃ b cap, W.cell? ⟨sb, i, none⟩ = some (.slice (some ⟨b, 0, none⟩) r.length cap) ∧ RowR W (.slice (some ⟨b, 0, none⟩) r.length cap) r (D i)

theorem StairR.lt {w W : World} {sb n : Nat} {R : Nat → Option (List Int)} {D : Nat → Nat} (h : StairR w W sb n R D) : sb < W.heap.size := by
  obtain ⟨cs, e⟩ := h.blk
  exact heap_lt e

theorem StairR.later {w W W' : World} {sb n : Nat} {R : Nat → Option (List Int)} {D : Nat → Nat} (h : StairR w W sb n R D) (hb : Below W.heap.size W W') : StairR w W' sb n R D where
  low := h.low
  below := h.below.trans (hb.mono h.below.size)
  blk := by obtain ⟨cs, e⟩ := h.blk; exact ⟨cs, (hb.block _ (heap_lt e)).trans e⟩
  nil := fun i hi e => (hb.cell (p := ⟨sb, i, none⟩) h.lt).trans (h.nil i hi e)
  row := fun i hi r e => by
    obtain ⟨b, cap, hc, hv⟩ := h.row i hi r e
    exact ⟨b, cap, (hb.cell (p := ⟨sb, i, none⟩) h.lt).trans hc, hv.below hb (Nat.le_refl _)⟩

theorem StairR.mono {w W : World} {sb n : Nat} {R : Nat → Option (List Int)} {D D' : Nat → Nat} (h : StairR w W sb n R D) (hn : ∀ i, i < n → D i ≤ D' i) : StairR w W sb n R D' :=
  ⟨h.low, h.below, h.blk, h.nil, fun i hi r e => by
    obtain ⟨b, cap, hc, hv⟩ := h.row i hi r e
    exact ⟨b, cap, hc, hv.mono (hn i hi)⟩⟩

theorem StairR.cell {w W : World} {sb n : Nat} {R : Nat → Option (List Int)} {D : Nat → Nat} (h : StairR w W sb n R D) {i : Nat} (hi : i < n) : ∃ o l c, W.cell? ⟨sb, i, none⟩ = some (.slice o l c) := by
  cases e : R i with
  | none => exact ⟨_, _, _, h.nil i hi e⟩
  | some r => obtain ⟨b, cap, hc, -⟩ := h.row i hi r e; exact ⟨_, _, _, hc⟩

theorem StairR.thaw {w W : World} {sb n : Nat} {R : Nat → Option (List Int)} {D : Nat → Nat} (h : StairR w W sb n R D) (k : Nat) : W.frozen? ⟨sb, k, none⟩ = false := by
  obtain ⟨cs, e⟩ := h.blk
  simp [World.frozen?, e]

theorem StairR.set {w W : World} {sb n : Nat} {R : Nat → Option (List Int)} {D : Nat → Nat} (h : StairR w W sb n R D) {k : Nat} (hk : k < n) {b cap d : Nat} {r : List Int} (hr : RowR W (.slice (some ⟨b, 0, none⟩) r.length cap) r d) :
    StairR w (W.setCell ⟨sb, k, none⟩ (.slice (some ⟨b, 0, none⟩) r.length cap)) sb n (putRow R k r) (fun i => if i = k then d else D i) := by
  obtain ⟨cs, hcs⟩ := h.blk
  obtain ⟨o, l, c, hc⟩ := h.cell hk
  have oth : ∀ i u, i ≠ k → W.cell? ⟨sb, i, none⟩ = some u → (W.setCell ⟨sb, k, none⟩ (.slice (some ⟨b, 0, none⟩) r.length cap)).cell? ⟨sb, i, none⟩ = some u := fun i u hi e =>
    (World.cell?_setCell_other (h := fun e => by simp at e <;> omega) ..).trans e
  refine ⟨h.low, h.below.setCell h.low _, ⟨_, heap_setCell_same W sb k _ _ _ hcs⟩, ?_, ?_⟩
  · intro i hi e
    unfold putRow at e
    by_cases hik : i = k
    · rw [if_pos hik] at e; cases e
    · rw [if_neg hik] at e
      exact oth i _ hik (h.nil i hi e)
  · intro i hi r' e
    unfold putRow at e
    by_cases hik : i = k
    · rw [if_pos hik] at e
      obtain rfl := Option.some.inj e
      subst hik
      exact ⟨b, cap, World.cell?_setCell_same (h := hc) .., by rw [if_pos rfl]; exact hr.setTyped hcs (by decide) (by decide) _ _⟩
    · rw [if_neg hik] at e
      obtain ⟨b', cap', hc', hv'⟩ := h.row i hi r' e
      exact ⟨b', cap', oth i _ hik hc', by rw [if_neg hik]; exact hv'.setTyped hcs (by decide) (by decide) _ _⟩

theorem StairR.made (w : World) (n : Nat) (D : Nat → Nat) : StairR w (w.alloc (.cells (madeCells #[.slice none 0 0] n) 106)) w.heap.size n (fun _ => none) D where
  low := Nat.le_refl _
  below := (Below.refl _ _).alloc (Nat.le_refl _) _
  blk := ⟨_, heap_alloc_new w _⟩
  nil := fun i hi _ => by
    rw [World.cell?_alloc_new]
    simp [madeCells, hi, Nat.mod_one]
  row := fun i hi r e => by cases e

/-- How many places ahead of one have a row. -/
def cn (R : Nat → Option (List Int)) : Nat → Nat
  | 0 => 0
  | c + 1 => cn R c + if (R c).isSome then 1 else 0

theorem cn_none (c : Nat) : cn (fun _ => none) c = 0 := by
  induction c with
  | zero => rfl
  | succ c ih => show cn (fun _ => none) c + 0 = 0; omega

theorem cn_le (R : Nat → Option (List Int)) (c : Nat) : cn R c ≤ c := by
  induction c with
  | zero => exact Nat.le_refl _
  | succ c ih => unfold cn; split <;> omega

theorem cn_mono (R : Nat → Option (List Int)) {c d : Nat} (h : c ≤ d) : cn R c ≤ cn R d := by
  induction d with
  | zero => obtain rfl : c = 0 := by omega
            exact Nat.le_refl _
  | succ d ih =>
    by_cases e : c = d + 1
    · rw [e]; exact Nat.le_refl _
    · have := ih (by omega)
      have e2 : cn R (d + 1) = cn R d + if (R d).isSome then 1 else 0 := rfl
      omega

theorem cn_some {R : Nat → Option (List Int)} {c : Nat} {r : List Int} (h : R c = some r) : cn R (c + 1) = cn R c + 1 := by
  show cn R c + (if (R c).isSome then 1 else 0) = _
  rw [h]; rfl

theorem cn_kept {R : Nat → Option (List Int)} {c : Nat} {r : List Int} (h : R c = some r) (t : List Int) (a : Nat) : cn (putRow R c t) a = cn R a := by
  induction a with
  | zero => rfl
  | succ a ih =>
    show cn (putRow R c t) a + (if (putRow R c t a).isSome then 1 else 0) = cn R a + if (R a).isSome then 1 else 0
    rw [ih]
    unfold putRow
    by_cases e : a = c
    · rw [if_pos e, e, h]; rfl
    · rw [if_neg e]

theorem cn_put (R : Nat → Option (List Int)) (c : Nat) (t : List Int) (a : Nat) : cn R a ≤ cn (putRow R c t) a ∧ cn (putRow R c t) a ≤ cn R a + if c < a then 1 else 0 := by
  induction a with
  | zero => exact ⟨Nat.le_refl _, by rw [if_neg (Nat.not_lt_zero c)]; exact Nat.le_refl _⟩
  | succ a ih =>
    have e1 : cn (putRow R c t) (a + 1) = cn (putRow R c t) a + (if (putRow R c t a).isSome then 1 else 0) := rfl
    have e2 : cn R (a + 1) = cn R a + (if (R a).isSome then 1 else 0) := rfl
    rw [e1, e2]
    unfold putRow at *
    by_cases e : a = c
    · rw [if_pos e]
      rw [if_neg (show ¬ c < a by omega)] at ih
      rw [if_pos (show c < a + 1 by omega)]
      have h1 : (if (some t).isSome = true then 1 else 0) = 1 := rfl
      rw [h1]
      split <;> omega
    · rw [if_neg e]
      by_cases h : c < a
      · rw [if_pos h] at ih
        rw [if_pos (show c < a + 1 by omega)]
        omega
      · rw [if_neg h] at ih
        rw [if_neg (show ¬ c < a + 1 by omega)]
        omega

/-- While a row is put in: places before c are done. -/
structure InR (w wr : World) (sb n a0 k c : Nat) (rows R : Nat → Option (List Int)) (us zs : List Int) (v : Value) : Prop where
  st : StairR w wr sb n R (fun a => if a < c then dT a0 (k + 1 + cn R a) else dT a0 (k + cn R a))
  ech : Ech R n n
  nz : NZ R
  zero : ∀ j, j < c → zs.getD j 0 = 0
  vec : RowR wr v zs (dT a0 (k + cn R c))
  len : zs.length = n
  gen : Alikes n (RowsOr R zs) (RowsOr rows us)
  cnt : cn R n ≤ k

/-- Rows are in: k of them. -/
structure OutR (w wr : World) (sb n a0 k : Nat) (R : Nat → Option (List Int)) (S : List Int → Prop) : Prop where
  st : StairR w wr sb n R (fun a => dT a0 (k + cn R a))
  ech : Ech R n n
  nz : NZ R
  gen : Alikes n (RowsOf R) S
  cnt : cn R n ≤ k

theorem NZ.set {R : Nat → Option (List Int)} {k : Nat} {r : List Int} (h : NZ R) (hr : r.getD k 0 ≠ 0) : NZ (putRow R k r) := fun i v e => by
  unfold putRow at e
  by_cases hi : i = k
  · rw [if_pos hi] at e
    obtain rfl := Option.some.inj e
    rw [hi]; exact hr
  · rw [if_neg hi] at e
    exact h i v e

/-- Nought is left of it. -/
theorem InR.next {w wr : World} {sb n a0 k c : Nat} {rows R : Nat → Option (List Int)} {us zs : List Int} {v : Value} (h : InR w wr sb n a0 k c rows R us zs v) (h0 : zs.getD c 0 = 0) : InR w wr sb n a0 k (c + 1) rows R us zs v :=
  ⟨h.st.mono fun i _ => by
    by_cases h1 : i < c
    · rw [if_pos h1, if_pos (by omega)]; exact Nat.le_refl _
    · rw [if_neg h1]
      split
      · exact dT_mono (by omega)
      · exact Nat.le_refl _, h.ech, h.nz, fun j hj => by
    by_cases e : j = c
    · rw [e]; exact h0
    · exact h.zero j (by omega), h.vec.mono (dT_mono (by have := cn_mono R (show c ≤ c + 1 by omega); omega)), h.len, h.gen, h.cnt⟩

theorem InR.last {w wr : World} {sb n a0 k : Nat} {rows R : Nat → Option (List Int)} {us zs : List Int} {v : Value} (h : InR w wr sb n a0 k n rows R us zs v) : OutR w wr sb n a0 (k + 1) R (RowsOr rows us) :=
  ⟨h.st.mono fun i hi => by rw [if_pos hi]; exact Nat.le_refl _, h.ech, h.nz, (alikes_end h.len h.zero).trans h.gen, Nat.le_succ_of_le h.cnt⟩

/-- It is laid into an empty place. -/
theorem InR.lay {w wr : World} {sb n a0 k c : Nat} {rows R : Nat → Option (List Int)} {us zs : List Int} {b cap : Nat} (h : InR w wr sb n a0 k c rows R us zs (.slice (some ⟨b, 0, none⟩) zs.length cap)) (hc : c < n) (hr : R c = none) (h0 : zs.getD c 0 ≠ 0) :
    OutR w (wr.setCell ⟨sb, c, none⟩ (.slice (some ⟨b, 0, none⟩) zs.length cap)) sb n a0 (k + 1) (putRow R c zs) (RowsOr rows us) := by
  refine ⟨(h.st.set hc h.vec).mono fun i _ => ?_, h.ech.set h.len h.zero hc, h.nz.set h0, ?_, ?_⟩
  · have hcp := (cn_put R c zs i).1
    by_cases h1 : i = c
    · rw [if_pos h1]
      subst h1
      exact dT_mono (by omega)
    · rw [if_neg h1]
      split
      · exact dT_mono (by omega)
      · exact dT_mono (by omega)
  · have := alikes_new (R := R) hr h.len (z := 1) (.inl rfl)
    have e : zs.map ((1 : Int) * ·) = zs := by
      have : (fun x : Int => 1 * x) = id := by funext x; simp
      rw [this, List.map_id]
    rw [e] at this
    exact this.trans h.gen
  · have h1 := (cn_put R c zs n).2
    rw [if_pos hc] at h1
    have := h.cnt
    omega

theorem run_mkRs (m : Nat) (hm : m ≤ 1000) (W : World) : (Instr.makeSlice 42 (.int .i64 (m : Int)) (.int .i64 (m : Int))).run Tryz.prog W = .ok (.slice (some ⟨W.heap.size, 0, none⟩) m m) (W.alloc (.cells (madeCells #[.slice none 0 0] m) 106)) := by
  obtain ⟨i0, hi, hz0, hz1, hz2⟩ := info_parts Tryz.infoRRow
  have h := run_make (P := Tryz.prog) W 42 106 i0 (.slice none 0 0) (by kernel_rfl) hi hz0 .i64 .i64 m m (by omega) (by omega) (by rw [hz2]; omega) (by omega)
  rw [hz1, Int.toNat_natCast, Nat.mul_one] at h
  exact h

theorem run_nil_eqR (w : World) : Sem.run Tryz.prog (binOp .eql 106 (.slice none 0 0) (.slice none 0 0)) w = .ok (.bool true) w := by kernel_rfl

theorem run_some_eqR (w : World) (a : Addr) (l c : Nat) : Sem.run Tryz.prog (binOp .eql 106 (.slice (some a) l c) (.slice none 0 0)) w = .ok (.bool false) w := by kernel_rfl

end Go.Proofs.YtdedolkgcdlmeaaGreatDoor
