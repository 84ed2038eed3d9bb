/- Limbs in memory of their own; signs turned; differences; likeness. -/
import Derived.Test.YtdedolkgcdlmeaaGreatDoorOf
import Derived.Laws.CopyOwn
namespace Go.Proofs.YtdedolkgcdlmeaaGreatDoor
open Go.RowKit Limbs

theorem Tryz.sizeU32 : (Tryz.prog.info? 104).map (·.size) = some 1 := by kernel_rfl

/-- A row of the call's own, known whole. -/
theorem Row.of_block {w : World} {g : Nat} {zs : List Int} {t : TypeId} (h : w.heap[g]? = some (.cells (zs.map (Value.int .u32)).toArray t (0, 0))) (hlb : LB zs) : Row w g zs := by
  refine ⟨?_, hlb, fun j hj => ⟨?_, frozen_of_row w g j _ t h⟩⟩
  · rcases Nat.lt_or_ge g w.heap.size with hlt | hge
    · exact hlt
    · rw [Array.getElem?_eq_none hge] at h; cases h
  · rw [cell_of_row w g j _ t (0, 0) h]
    simp [List.getD_eq_getElem?_getD, hj]

theorem madeCells_list (m : Nat) : madeCells #[Value.int .u32 0] m = ((List.replicate m (0 : Int)).map (Value.int .u32)).toArray := by
  apply Array.ext_getElem?
  intro j
  by_cases hj : j < m
  · simp [madeCells, hj, Nat.mod_one]
  · simp [madeCells, hj]

/-- The same limbs in a new row; the row may be written. -/
def FreshPost (w : World) (zs : List Int) (e : Ending) (w' : World) : Prop :=
  e = .returned (.slice (some ⟨w.heap.size, 0, none⟩) zs.length zs.length) ∧ Row w' w.heap.size zs ∧ Below w.heap.size w w'

/-- What copy does to the new row. -/
theorem copy_fresh (w : World) (ao : Option Addr) (cap : Nat) (zs : List Int) (hc : 0 < zs.length → ∃ b off, ao = some ⟨b, off, none⟩ ∧ b < w.heap.size ∧ ∀ i, i < zs.length → w.cell? ⟨b, off + i, none⟩ = some (.int .u32 (zs.getD i 0))) :
    ∃ W, (∀ ty, (Builtin.copy_ #[27, 27] ty #[.slice (some ⟨w.heap.size, 0, none⟩) zs.length zs.length, .slice ao zs.length cap]).run Tryz.prog (w.alloc (.cells ((List.replicate zs.length (0 : Int)).map (Value.int .u32)).toArray 104)) = .ok (goInt zs.length) W) ∧
      W.heap[w.heap.size]? = some (.cells (zs.map (Value.int .u32)).toArray 104 (0, 0)) ∧ Below w.heap.size w W := by
  by_cases h0 : zs.length = 0
  · obtain rfl : zs = [] := List.eq_nil_of_length_eq_zero h0
    refine ⟨_, fun ty => ?_, heap_alloc_new w _, (Below.refl _ _).alloc (Nat.le_refl _) _⟩
    exact run_copy_none _ _ _ ty 104 _ _ _ _ _ _ Tryz.underlying27 Tryz.sizeU32 (by simp)
  · obtain ⟨b, off, rfl, hb, hcell⟩ := hc (by omega)
    have hsrc : ∀ j v, (zs.map (Value.int .u32))[j]? = some v → (w.alloc (.cells ((List.replicate zs.length (0 : Int)).map (Value.int .u32)).toArray 104)).cell? ((⟨b, off, none⟩ : Addr).add j) = some v := by
      intro j u hj
      rw [List.getElem?_map] at hj
      by_cases hjl : j < zs.length
      · rw [List.getElem?_eq_getElem hjl] at hj
        simp at hj
        subst hj
        have hadd : (⟨b, off, none⟩ : Addr).add j = ⟨b, off + j, none⟩ := by unfold Addr.add; split <;> simp_all
        rw [hadd, World.cell?_alloc_past _ _ _ hb, hcell j hjl]
        simp [List.getD_eq_getElem?_getD, hjl]
      · rw [List.getElem?_eq_none (by omega)] at hj; cases hj
    have hrun := fun ty => run_copy_row (P := Tryz.prog) (w.alloc (.cells ((List.replicate zs.length (0 : Int)).map (Value.int .u32)).toArray 104)) 27 27 ty 104 w.heap.size 0 zs.length zs.length ⟨b, off, none⟩ zs.length cap _ 104 (zs.map (Value.int .u32)) Tryz.underlying27 Tryz.sizeU32 (heap_alloc_new w _) (by simp) hsrc (by simp) (ints_oneCell _ _)
    rw [List.length_map] at hrun
    refine ⟨_, hrun, ?_, below_setRow ((Below.refl _ _).alloc (Nat.le_refl _) _) (Nat.le_refl _) _⟩
    rw [setRow_heap _ _ _ _ _ _ (heap_alloc_new w _)]
    simp

set_option maxRecDepth 100000 in
set_option maxHeartbeats 400000 in
theorem freshLimbs_any (w : World) (v : Value) (zs : List Int) (h : Lim w v zs) :
    Calls Tryz.prog 96 #[v] w fun e w' => FreshPost w zs e w' := by
  obtain ⟨ao, cap, rfl, hcap, hlen, hlb, hc⟩ := h
  obtain ⟨W, hcp, hrow, hbe⟩ := copy_fresh w ao cap zs hc
  clear hc
  have hmk := run_mk zs.length (by omega)
  rw [madeCells_list] at hmk
  have HL := hide (Row.of_block hrow hlb)
  have HB := hide hbe
  clear hrow hbe
  generalize ((List.replicate zs.length (0 : Int)).map (Value.int .u32)).toArray = C at *
  go_enter Tryz.func96, Tryz.ntmps96
  go_wp2
  go_ret
  exact ⟨rfl, HL.out, HB.out⟩

theorem FreshPost.lim {w w' : World} {zs : List Int} (hr : Row w' w.heap.size zs) (hl : zs.length ≤ 1000000) : Lim w' (.slice (some ⟨w.heap.size, 0, none⟩) zs.length zs.length) zs := hr.lim _ (Nat.le_refl _) hl

/-- One struct came in, and the result's own variable. -/
structure Two (w W : World) (a0 a1 r0 r1 : Value) : Prop where
  fst : Box W w.heap.size a0 a1
  res : Box W (w.heap.size + 1) r0 r1
  below : Below w.heap.size w W
  size : w.heap.size + 1 < W.heap.size

theorem two (w : World) (a0 a1 r0 r1 : Value) (t1 t2 : TypeId) : Two w ((w.alloc (.cells #[a0, a1] t1)).alloc (.cells #[r0, r1] t2)) a0 a1 r0 r1 where
  fst := (box_new w _ _ _ _ rfl).later ((Below.refl _ _).alloc (by simp) _ : Below (w.heap.size + 1) _ _) (by omega)
  res := box_new _ _ _ _ _ (by simp)
  below := ((Below.refl _ _).alloc (Nat.le_refl _) _).alloc (by simp) _
  size := by simp

theorem Two.later {w W W' : World} {a0 a1 r0 r1 : Value} (h : Two w W a0 a1 r0 r1) (hb : Below W.heap.size W W') : Two w W' a0 a1 r0 r1 where
  fst := h.fst.later hb (by have := h.size; omega)
  res := h.res.later hb h.size
  below := h.below.trans (hb.mono h.below.size)
  size := Nat.lt_of_lt_of_le h.size hb.size

theorem Two.drew {w W : World} {a0 a1 r0 r1 : Value} (h : Two w W a0 a1 r0 r1) : Two w W.drew a0 a1 r0 r1 := ⟨h.fst, h.res, h.below.drew, h.size⟩

set_option maxHeartbeats 800000 in
theorem neg_any (w : World) (va : Value) (x : Int) (n : Nat) (ha : NumL w va x n) (hn : n ≤ 1000000) :
    Calls Tryz.prog 55 #[va] w fun e w' => NumPost w (-x) n e w' := by
  obtain ⟨an, sa, a, rfl, hla, nra, -, hx, hna⟩ := ha
  have HA := hide hla
  obtain ⟨ao, acap, rfl, -⟩ := hla
  have HX := hide hx; clear hx
  go_enter Tryz.func55, Tryz.ntmps55
  go_wp2_with fail
  have hT := two w (.bool an) (.slice ao a.length acap) (.bool false) (.slice none 0 0) 29 29
  generalize (w.alloc (.cells #[.bool an, .slice ao a.length acap] 29)).alloc (.cells #[.bool false, .slice none 0 0] 29) = W at *
  obtain ⟨k0, k1, -, -⟩ := hT.fst
  go_region_held3 (fun w' => w'.cell? ⟨w.heap.size, 0, none⟩ = some (.bool an) ∧ w'.cell? ⟨w.heap.size, 1, none⟩ = some (.slice ao a.length acap)) (go_keep)
    (first
      | (go_at_call 96; refine (freshLimbs_any _ _ a (HA.out.below (by exact hT.below.drew) (Nat.le_refl _))).mono ?_; rintro e w1 ⟨rfl, hr1, hb1⟩; have hT1 := hT.drew.later hb1; obtain ⟨p0, p1, -, -⟩ := hT1.fst)
      | (go_at_call 95; refine (signed_any _ _ _ a n (FreshPost.lim hr1 (by omega)) hna).mono ?_; rintro e w2 ⟨r, rfl, hr, hb2⟩; have hT2 := hT1.later hb2; obtain ⟨p0', p1', -, -⟩ := hT2.fst; obtain ⟨c0, c1, f0, f1⟩ := hT2.res; have HR := hide hr; obtain ⟨rn, rs, rz, rfl, hl, -⟩ := hr; obtain ⟨ro, rcap, rfl, -⟩ := hl))
  have e : (if (!an) = true then -lv a else lv a) = -x := by rw [HX.out]; cases an <;> simp
  rw [e] at HR
  have HF := hide (boxed (w := w) HR.out c0 c1 (by simp) (by simp) hT2.below (by omega))
  clear hT hT1 hT2 hb1 hb2 HR e hr1
  go_wp2
  exact bodyPost_ret (v := .agg #[.bool rn, .slice ro rz.length rcap]) (by simp [results, Tryz.results55, go_sem, c0, c1]) rfl HF.out

set_option maxHeartbeats 800000 in
theorem sub_any (w : World) (va vb : Value) (x y : Int) (n : Nat) (ha : NumL w va x n) (hb : NumL w vb y n) (hn : n ≤ 900000) :
    Calls Tryz.prog 97 #[va, vb] w fun e w' => NumPost w (x - y) (n + 1) e w' := by
  obtain ⟨an, sa, a, rfl, hla, nra, -, hx, hna⟩ := ha
  obtain ⟨bn, sb, b, rfl, hlb, nrb, -, hy, hnb⟩ := hb
  have HA := hide hla
  have HB := hide hlb
  obtain ⟨ao, acap, rfl, -⟩ := hla
  obtain ⟨bo, bcap, rfl, -⟩ := hlb
  have HX := hide hx; clear hx
  have HY := hide hy; clear hy
  go_enter Tryz.func97, Tryz.ntmps97
  go_wp2_with fail
  have hT := three w (.bool an) (.slice ao a.length acap) (.bool bn) (.slice bo b.length bcap) (.bool false) (.slice none 0 0) 29 29 29
  refine (addSigned_any _ _ _ a _ _ b (HA.out.below hT.below (Nat.le_refl _)) (HB.out.below hT.below (Nat.le_refl _)) nra nrb n hna hnb hn).mono ?_
  rintro e w2 ⟨r, rfl, hr, hb2⟩
  have hT2 := hT.later hb2
  obtain ⟨c0, c1, f0, f1⟩ := hT2.res
  have HR := hide hr
  obtain ⟨rn, rs, rz, rfl, hl, -⟩ := hr
  obtain ⟨ro, rcap, rfl, -⟩ := hl
  have e : sg an (lv a) + sg (!bn) (lv b) = x - y := by rw [HX.out, HY.out]; unfold sg; cases an <;> cases bn <;> simp <;> omega
  rw [e] at HR
  have HF := hide (boxed (w := w) HR.out c0 c1 (by simp) (by simp) hT2.below (by simp))
  clear hT hT2 hb2 HR e
  go_wp2
  exact bodyPost_ret (v := .agg #[.bool rn, .slice ro rz.length rcap]) (by simp [results, Tryz.results97, go_sem, c0, c1]) rfl HF.out

theorem is_any (w : World) (va vb : Value) (x y : Int) (n m : Nat) (ha : NumL w va x n) (hb : NumL w vb y m) :
    Calls Tryz.prog 47 #[va, vb] w fun e w' => e = .returned (.bool (cmpI x y == 0)) ∧ Below w.heap.size w w' := by
  have HA := hide ha; have HB := hide hb
  obtain ⟨an, sa, a, rfl, hla, -⟩ := ha
  obtain ⟨bn, sb, b, rfl, hlb, -⟩ := hb
  obtain ⟨ao, acap, rfl, -⟩ := hla
  obtain ⟨bo, bcap, rfl, -⟩ := hlb
  have hbel : ∀ o1 o2, Below w.heap.size w ((w.alloc o1).alloc o2) := fun o1 o2 => ((Below.refl _ _).alloc (Nat.le_refl _) _).alloc (by simp) _
  go_enter Tryz.func47, Tryz.ntmps47
  go_wp2_with fail
  refine (compare_any _ _ _ x y n m (HA.out.below (hbel _ _) (Nat.le_refl _)) (HB.out.below (hbel _ _) (Nat.le_refl _))).mono ?_
  rintro e w2 ⟨rfl, hb2⟩
  have HF := hide ((hbel _ _).trans (hb2.mono (by simp; omega)))
  clear hb2
  go_wp2
  go_ret
  exact ⟨rfl, HF.out⟩

end Go.Proofs.YtdedolkgcdlmeaaGreatDoor
