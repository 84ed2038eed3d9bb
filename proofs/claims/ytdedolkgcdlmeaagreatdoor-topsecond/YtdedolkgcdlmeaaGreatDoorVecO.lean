/- A vector of one's own, being made: each place is a number; one of them is written. -/
import Derived.Test.YtdedolkgcdlmeaaGreatDoorVecB
import Derived.Test.YtdedolkgcdlmeaaGreatDoorSnoc
import Derived.OwnWalk
import Derived.Laws.MakeOwn
namespace Go.Proofs.YtdedolkgcdlmeaaGreatDoor
open Go.RowKit Limbs

theorem Tryz.infoNum : (Tryz.prog.info? 29).map (fun i => (i.zero, i.size, i.bytes)) = some (some (.agg #[.bool false, .slice none 0 0]), 2, 32) := by kernel_rfl

theorem run_mkV (m : Nat) (hm : m ≤ 1000) (W : World) : (Instr.makeSlice 72 (.int .i64 (m : Int)) (.int .i64 (m : Int))).run Tryz.prog W = .ok (.slice (some ⟨W.heap.size, 0, none⟩) m m) (W.alloc (.cells (madeCells #[.bool false, .slice none 0 0] (m * 2)) 29)) := by
  obtain ⟨i0, hi, hz0, hz1, hz2⟩ := info_parts Tryz.infoNum
  have h := run_make (P := Tryz.prog) W 72 29 i0 (.agg #[.bool false, .slice none 0 0]) (by kernel_rfl) hi hz0 .i64 .i64 m m (by omega) (by omega) (by rw [hz2]; omega) (by omega)
  rw [hz1, Int.toNat_natCast] at h
  exact h

theorem NumL.nought (w : World) (n : Nat) : NumL w (.agg #[.bool false, .slice none 0 0]) 0 n :=
  ⟨false, .slice none 0 0, [], rfl, ⟨none, 0, rfl, Nat.le_refl _, by simp, LB_nil, fun h => absurd h (by simp)⟩, Or.inl rfl, fun _ => rfl, by simp [lv], by simp⟩

/-- A vector of one's own: it lies in its own block, from its start on. -/
structure VecO (w W : World) (P : Nat) (zs : List Int) (n : Nat) : Prop where
  vec : VecN W (.slice (some ⟨P, 0, none⟩) zs.length zs.length) zs n
  low : w.heap.size ≤ P
  below : Below w.heap.size w W
  blk : ∃ cs, W.heap[P]? = some (.cells cs 29)

theorem VecO.lt {w W : World} {P : Nat} {zs : List Int} {n : Nat} (h : VecO w W P zs n) : P < W.heap.size := by
  obtain ⟨cs, e⟩ := h.blk
  exact heap_lt e

theorem VecO.later {w W W' : World} {P : Nat} {zs : List Int} {n : Nat} (h : VecO w W P zs n) (hb : Below W.heap.size W W') : VecO w W' P zs n where
  vec := h.vec.below hb (Nat.le_refl _)
  low := h.low
  below := h.below.trans (hb.mono h.below.size)
  blk := by obtain ⟨cs, e⟩ := h.blk; exact ⟨cs, (hb.block _ (heap_lt e)).trans e⟩

theorem VecO.drew {w W : World} {P : Nat} {zs : List Int} {n : Nat} (h : VecO w W P zs n) : VecO w W.drew P zs n := ⟨h.vec, h.low, h.below.drew, h.blk⟩

theorem VecO.thaw {w W : World} {P : Nat} {zs : List Int} {n : Nat} (h : VecO w W P zs n) (k : Nat) : W.frozen? ⟨P, k, none⟩ = false := by
  obtain ⟨cs, e⟩ := h.blk
  simp [World.frozen?, e]

theorem VecN.mono {w : World} {v : Value} {zs : List Int} {n m : Nat} (h : VecN w v zs n) (hm : n ≤ m) : VecN w v zs m := by
  obtain ⟨ao, cap, hv, h1, h2⟩ := h
  refine ⟨ao, cap, hv, h1, fun h0 => ?_⟩
  obtain ⟨b, off, e, hlt, hc⟩ := h2 h0
  refine ⟨b, off, e, hlt, fun i hi => ?_⟩
  obtain ⟨neg, o, l, c, h3, h4, h5⟩ := hc i hi
  exact ⟨neg, o, l, c, h3, h4, h5.mono hm⟩

theorem made_cell (m i : Nat) (hi : i < m) : (madeCells #[.bool false, .slice none 0 0] (m * 2))[i * 2]? = some (.bool false) ∧ (madeCells #[.bool false, .slice none 0 0] (m * 2))[i * 2 + 1]? = some (.slice none 0 0) := by
  have h1 : i * 2 < m * 2 := by omega
  have h2 : i * 2 + 1 < m * 2 := by omega
  have e1 : i * 2 % 2 = 0 := by omega
  have e2 : (i * 2 + 1) % 2 = 1 := by omega
  constructor
  · simp [madeCells, h1, e1]
  · simp [madeCells, h2, e2]

theorem VecO.made (w W : World) (hb : Below w.heap.size w W) (m n : Nat) : VecO w (W.alloc (.cells (madeCells #[.bool false, .slice none 0 0] (m * 2)) 29)) W.heap.size (List.replicate m 0) n where
  vec := by
    refine ⟨_, _, rfl, Nat.le_refl _, fun h0 => ⟨_, _, rfl, by simp, fun i hi => ⟨false, none, 0, 0, ?_, ?_, ?_⟩⟩⟩
    · rw [List.length_replicate] at hi
      rw [Nat.zero_add, World.cell?_alloc_new]
      exact (made_cell m i hi).1
    · rw [List.length_replicate] at hi
      rw [Nat.zero_add, World.cell?_alloc_new]
      exact (made_cell m i hi).2
    · have e : (List.replicate m (0 : Int)).getD i 0 = 0 := by
        rw [List.getD_eq_getElem?_getD, List.getElem?_replicate]
        split <;> rfl
      rw [e]
      exact NumL.nought _ _
  low := hb.size
  below := hb.alloc hb.size _
  blk := ⟨_, heap_alloc_new W _⟩

/-- One place, read. -/
theorem VecO.at {w W : World} {P : Nat} {zs : List Int} {n : Nat} (h : VecO w W P zs n) (i : Nat) (hi : i < zs.length) : ∃ (neg : Bool) (o : Option Addr) (l c : Nat), W.cell? ⟨P, i * 2, none⟩ = some (.bool neg) ∧ W.cell? ⟨P, i * 2 + 1, none⟩ = some (.slice o l c) ∧ NumL W (.agg #[.bool neg, .slice o l c]) (zs.getD i 0) n := by
  have := (h.vec.at i hi).2
  simpa only [Nat.zero_add] using this

/-- One place is written. -/
theorem VecO.set {w W : World} {P : Nat} {zs : List Int} {n : Nat} (h : VecO w W P zs n) {k : Nat} (hk : k < zs.length) {neg : Bool} {o : Option Addr} {l c : Nat} {z : Int} (hz : NumL W (.agg #[.bool neg, .slice o l c]) z n) :
    VecO w ((W.setCell ⟨P, k * 2, none⟩ (.bool neg)).setCell ⟨P, k * 2 + 1, none⟩ (.slice o l c)) P (zs.set k z) n := by
  obtain ⟨neg0, o0, l0, c0, k0, k1, -⟩ := h.at k hk
  have k1' : (W.setCell ⟨P, k * 2, none⟩ (.bool neg)).cell? ⟨P, k * 2 + 1, none⟩ = some (.slice o0 l0 c0) := (World.cell?_setCell_other (h := fun e => by simp at e) ..).trans k1
  have keep : ∀ {v : Value} {y : Int}, NumL W v y n → NumL ((W.setCell ⟨P, k * 2, none⟩ (.bool neg)).setCell ⟨P, k * 2 + 1, none⟩ (.slice o l c)) v y n := fun hv =>
    (hv.setCell k0 (fun z e => by cases e)).setCell k1' (fun z e => by cases e)
  have hlen : (zs.set k z).length = zs.length := List.length_set
  refine ⟨?_, h.low, (h.below.setCell (by exact h.low) _).setCell (by exact h.low) _, ?_⟩
  · refine ⟨_, _, rfl, by omega, fun h0 => ⟨_, _, rfl, by simpa using h.lt, fun i hi => ?_⟩⟩
    rw [hlen] at hi
    by_cases hik : i = k
    · subst hik
      refine ⟨neg, o, l, c, ?_, ?_, ?_⟩
      · rw [Nat.zero_add]
        exact (World.cell?_setCell_other (h := fun e => by simp at e) ..).trans (World.cell?_setCell_same (h := k0) ..)
      · rw [Nat.zero_add]
        exact World.cell?_setCell_same (h := k1') ..
      · have e : (zs.set i z).getD i 0 = z := by
          rw [List.getD_eq_getElem?_getD, List.getElem?_set_self hi]; rfl
        rw [e]
        exact keep hz
    · obtain ⟨neg1, o1, l1, c1, m0, m1, m2⟩ := h.at i hi
      refine ⟨neg1, o1, l1, c1, ?_, ?_, ?_⟩
      · rw [Nat.zero_add]
        exact ((World.cell?_setCell_other (h := fun e => by simp at e <;> omega) ..).trans (World.cell?_setCell_other (h := fun e => by simp at e <;> omega) ..)).trans m0
      · rw [Nat.zero_add]
        exact ((World.cell?_setCell_other (h := fun e => by simp at e <;> omega) ..).trans (World.cell?_setCell_other (h := fun e => by simp at e <;> omega) ..)).trans m1
      · have e : (zs.set k z).getD i 0 = zs.getD i 0 := by
          rw [List.getD_eq_getElem?_getD, List.getD_eq_getElem?_getD, List.getElem?_set_ne (by omega)]
        rw [e]
        exact keep m2
  · obtain ⟨cs, e⟩ := h.blk
    exact ⟨_, heap_setCell_same _ P (k * 2 + 1) _ _ _ (heap_setCell_same W P (k * 2) _ _ _ e)⟩

theorem fill_step (zs : List Int) (k : Nat) (hk : k < zs.length) : (zs.take k ++ List.replicate (zs.length - k) 0).set k (zs.getD k 0) = zs.take (k + 1) ++ List.replicate (zs.length - (k + 1)) 0 := by
  have e : zs.length - k = (zs.length - (k + 1)) + 1 := by omega
  have hl : (zs.take k).length = k := by rw [List.length_take]; omega
  rw [e, List.replicate_succ, List.set_append_right _ _ (by omega), hl, Nat.sub_self, List.set_cons_zero, List.take_succ_eq_append_getElem hk, List.getD_eq_getElem?_getD, List.getElem?_eq_getElem hk, Option.getD_some, List.append_assoc, List.singleton_append]

theorem fill_len (zs : List Int) (k : Nat) (hk : k ≤ zs.length) : (zs.take k ++ List.replicate (zs.length - k) 0).length = zs.length := by
  rw [List.length_append, List.length_take, List.length_replicate]; omega

end Go.Proofs.YtdedolkgcdlmeaaGreatDoor
