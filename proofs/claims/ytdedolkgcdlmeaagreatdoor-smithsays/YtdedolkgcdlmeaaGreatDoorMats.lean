/- Vectors of numbers; are two the same? -/
import Derived.Test.YtdedolkgcdlmeaaGreatDoorVecA
import Derived.Deep.RegionHeld3
import Derived.Laws.CopyOwn
import Derived.Deep.AppendLies
import Derived.OwnWalk
import Derived.Laws.MakeOwn

namespace Go.Proofs.YtdedolkgcdlmeaaGreatDoor
open Go.RowKit Limbs

def VecN (w : World) (v : Value) (zs : List Int) (n : Nat) : Prop :=
 ∃ ao cap, v = .slice ao zs.length cap ∧ zs.length ≤ cap ∧
  (0 < zs.length → ∃ b off, ao = some ⟨b, off, none⟩ ∧ b < w.heap.size ∧ ∀ i, i < zs.length → ∃ (neg : Bool) (o : Option Addr) (l c : Nat), w.cell? ⟨b, off + i * 2, none⟩ = some (.bool neg) ∧ w.cell? ⟨b, off + i * 2 + 1, none⟩ = some (.slice o l c) ∧ NumL w (.agg #[.bool neg, .slice o l c]) (zs.getD i 0) n)

theorem VecN.below {C : Nat} {w w' : World} {v : Value} {zs : List Int} {n : Nat} (h : VecN w v zs n) (hb : Below C w w') (hC : w.heap.size ≤ C) : VecN w' v zs n := by
 obtain ⟨ao, cap, hv, h1, h2⟩ := h
 refine ⟨ao, cap, hv, h1, fun h0 => ?_⟩
 obtain ⟨b, off, e, hlt, hc⟩ := h2 h0
 refine ⟨b, off, e, Nat.lt_of_lt_of_le hlt hb.size, fun i hi => ?_⟩
 obtain ⟨neg, o, l, c, h3, h4, h5⟩ := hc i hi
 exact ⟨neg, o, l, c, (hb.cell (p := ⟨b, off + i * 2, none⟩) (Nat.lt_of_lt_of_le hlt hC)).trans h3, (hb.cell (p := ⟨b, off + i * 2 + 1, none⟩) (Nat.lt_of_lt_of_le hlt hC)).trans h4, h5.below hb hC⟩

theorem VecN.at {w : World} {b off cap : Nat} {zs : List Int} {n : Nat} (h : VecN w (.slice (some ⟨b, off, none⟩) zs.length cap) zs n) (i : Nat) (hi : i < zs.length) : b < w.heap.size ∧ ∃ (neg : Bool) (o : Option Addr) (l c : Nat), w.cell? ⟨b, off + i * 2, none⟩ = some (.bool neg) ∧ w.cell? ⟨b, off + i * 2 + 1, none⟩ = some (.slice o l c) ∧ NumL w (.agg #[.bool neg, .slice o l c]) (zs.getD i 0) n := by
 obtain ⟨_, _, e, -, hc⟩ := h
 simp only [Value.slice.injEq, true_and] at e
 obtain ⟨rfl, rfl⟩ := e
 obtain ⟨_, _, e, hlt, hc⟩ := hc (by omega)
 simp only [Option.some.injEq, Addr.mk.injEq, and_true] at e
 obtain ⟨rfl, rfl⟩ := e
 exact ⟨hlt, hc i hi⟩

theorem VecN.form {w : World} {v : Value} {zs : List Int} {n : Nat} (h : VecN w v zs n) (h0 : 0 < zs.length) : ∃ b off cap, v = .slice (some ⟨b, off, none⟩) zs.length cap := by
 obtain ⟨ao, cap, rfl, -, hc⟩ := h
 obtain ⟨b, off, rfl, -⟩ := hc h0
 exact ⟨b, off, cap, rfl⟩

end Go.Proofs.YtdedolkgcdlmeaaGreatDoor

/- Limbs in memory of their own; signs turned; differences; likeness. -/
namespace Go.Proofs.YtdedolkgcdlmeaaGreatDoor
open Go.RowKit Limbs

theorem Tryz.sizeU32 : (Tryz.prog.info? 104).map (·.size) = some 1 := by kernel_rfl

theorem Row.of_block {w : World} {g : Nat} {zs : List Int} {t : TypeId} (h : w.heap[g]? = some (.cells (zs.map (Value.int .u32)).toArray t (0, 0))) (hlb : LB zs) : Row w g zs := by
 refine ⟨?_, hlb, fun j hj => ⟨?_, frozen_of_row w g j _ t h⟩⟩
 ·rcases Nat.lt_or_ge g w.heap.size with hlt | hge
  ·exact hlt
  ·rw [Array.getElem?_eq_none hge] at h; cases h
 ·rw [cell_of_row w g j _ t (0, 0) h]
  simp [List.getD_eq_getElem?_getD, hj]

theorem madeCells_list (m : Nat) : madeCells #[Value.int .u32 0] m = ((List.replicate m (0 : Int)).map (Value.int .u32)).toArray := by
 apply Array.ext_getElem?
 intro j
 by_cases hj : j < m
 ·simp [madeCells, hj, Nat.mod_one]
 ·simp [madeCells, hj]

def FreshPost (w : World) (zs : List Int) (e : Ending) (w' : World) : Prop :=
 e = .returned (.slice (some ⟨w.heap.size, 0, none⟩) zs.length zs.length) ∧ Row w' w.heap.size zs ∧ Below w.heap.size w w'

theorem copy_fresh (w : World) (ao : Option Addr) (cap : Nat) (zs : List Int) (hc : 0 < zs.length → ∃ b off, ao = some ⟨b, off, none⟩ ∧ b < w.heap.size ∧ ∀ i, i < zs.length → w.cell? ⟨b, off + i, none⟩ = some (.int .u32 (zs.getD i 0))) :
  ∃ W, (∀ ty, (Builtin.copy_ #[27, 27] ty #[.slice (some ⟨w.heap.size, 0, none⟩) zs.length zs.length, .slice ao zs.length cap]).run Tryz.prog (w.alloc (.cells ((List.replicate zs.length (0 : Int)).map (Value.int .u32)).toArray 104)) = .ok (goInt zs.length) W) ∧
   W.heap[w.heap.size]? = some (.cells (zs.map (Value.int .u32)).toArray 104 (0, 0)) ∧ Below w.heap.size w W := by
 by_cases h0 : zs.length = 0
 ·obtain rfl : zs = [] := List.eq_nil_of_length_eq_zero h0
  refine ⟨_, fun ty => ?_, heap_alloc_new w _, (Below.refl _ _).alloc (Nat.le_refl _) _⟩
  exact run_copy_none _ _ _ ty 104 _ _ _ _ _ _ Tryz.underlying27 Tryz.sizeU32 (by simp)
 ·obtain ⟨b, off, rfl, hb, hcell⟩ := hc (by omega)
  have hsrc : ∀ j v, (zs.map (Value.int .u32))[j]? = some v → (w.alloc (.cells ((List.replicate zs.length (0 : Int)).map (Value.int .u32)).toArray 104)).cell? ((⟨b, off, none⟩ : Addr).add j) = some v := by
   intro j u hj
   rw [List.getElem?_map] at hj
   by_cases hjl : j < zs.length
   ·rw [List.getElem?_eq_getElem hjl] at hj
    simp at hj
    subst hj
    have hadd : (⟨b, off, none⟩ : Addr).add j = ⟨b, off + j, none⟩ := by unfold Addr.add; split <;> simp_all
    rw [hadd, World.cell?_alloc_past _ _ _ hb, hcell j hjl]
    simp [List.getD_eq_getElem?_getD, hjl]
   ·rw [List.getElem?_eq_none (by omega)] at hj; cases hj
  have hrun := fun ty => run_copy_row (P := Tryz.prog) (w.alloc (.cells ((List.replicate zs.length (0 : Int)).map (Value.int .u32)).toArray 104)) 27 27 ty 104 w.heap.size 0 zs.length zs.length ⟨b, off, none⟩ zs.length cap _ 104 (zs.map (Value.int .u32)) Tryz.underlying27 Tryz.sizeU32 (heap_alloc_new w _) (by simp) hsrc (by simp) (ints_oneCell _ _)
  rw [List.length_map] at hrun
  refine ⟨_, hrun, ?_, below_setRow ((Below.refl _ _).alloc (Nat.le_refl _) _) (Nat.le_refl _) _⟩
  rw [setRow_heap _ _ _ _ _ _ (heap_alloc_new w _)]
  simp

set_option maxRecDepth 100000 in
set_option maxHeartbeats 400000 in
theorem freshLimbs_any (w : World) (v : Value) (zs : List Int) (h : Lim w v zs) :
  Calls Tryz.prog 96 #[v] w fun e w' => FreshPost w zs e w' := by
 obtain ⟨ao, cap, rfl, hcap, hlen, hlb, hc⟩ := h
 obtain ⟨W, hcp, hrow, hbe⟩ := copy_fresh w ao cap zs hc
 clear hc
 have hmk := run_mk zs.length (by omega)
 rw [madeCells_list] at hmk
 have HL := hide (Row.of_block hrow hlb)
 have HB := hide hbe
 clear hrow hbe
 generalize ((List.replicate zs.length (0 : Int)).map (Value.int .u32)).toArray = C at *
 go_enter Tryz.func96, Tryz.ntmps96
 go_wp2
 go_ret
 exact ⟨rfl, HL.out, HB.out⟩

theorem FreshPost.lim {w w' : World} {zs : List Int} (hr : Row w' w.heap.size zs) (hl : zs.length ≤ 1000000) : Lim w' (.slice (some ⟨w.heap.size, 0, none⟩) zs.length zs.length) zs := hr.lim _ (Nat.le_refl _) hl

structure Two (w W : World) (a0 a1 r0 r1 : Value) : Prop where
 fst : Box W w.heap.size a0 a1
 res : Box W (w.heap.size + 1) r0 r1
 below : Below w.heap.size w W
 size : w.heap.size + 1 < W.heap.size

theorem two (w : World) (a0 a1 r0 r1 : Value) (t1 t2 : TypeId) : Two w ((w.alloc (.cells #[a0, a1] t1)).alloc (.cells #[r0, r1] t2)) a0 a1 r0 r1 where
 fst := (box_new w _ _ _ _ rfl).later ((Below.refl _ _).alloc (by simp) _ : Below (w.heap.size + 1) _ _) (by omega)
 res := box_new _ _ _ _ _ (by simp)
 below := ((Below.refl _ _).alloc (Nat.le_refl _) _).alloc (by simp) _
 size := by simp

theorem Two.later {w W W' : World} {a0 a1 r0 r1 : Value} (h : Two w W a0 a1 r0 r1) (hb : Below W.heap.size W W') : Two w W' a0 a1 r0 r1 where
 fst := h.fst.later hb (by have := h.size; omega)
 res := h.res.later hb h.size
 below := h.below.trans (hb.mono h.below.size)
 size := Nat.lt_of_lt_of_le h.size hb.size

theorem Two.drew {w W : World} {a0 a1 r0 r1 : Value} (h : Two w W a0 a1 r0 r1) : Two w W.drew a0 a1 r0 r1 := ⟨h.fst, h.res, h.below.drew, h.size⟩

set_option maxHeartbeats 800000 in
theorem neg_any (w : World) (va : Value) (x : Int) (n : Nat) (ha : NumL w va x n) (hn : n ≤ 1000000) :
  Calls Tryz.prog 55 #[va] w fun e w' => NumPost w (-x) n e w' := by
 obtain ⟨an, sa, a, rfl, hla, nra, -, hx, hna⟩ := ha
 have HA := hide hla
 obtain ⟨ao, acap, rfl, -⟩ := hla
 have HX := hide hx; clear hx
 go_enter Tryz.func55, Tryz.ntmps55
 go_wp2_with fail
 have hT := two w (.bool an) (.slice ao a.length acap) (.bool false) (.slice none 0 0) 29 29
 generalize (w.alloc (.cells #[.bool an, .slice ao a.length acap] 29)).alloc (.cells #[.bool false, .slice none 0 0] 29) = W at *
 obtain ⟨k0, k1, -, -⟩ := hT.fst
 go_region_held3 (fun w' => w'.cell? ⟨w.heap.size, 0, none⟩ = some (.bool an) ∧ w'.cell? ⟨w.heap.size, 1, none⟩ = some (.slice ao a.length acap)) (go_keep)
  (first
   | (go_at_call 96; refine (freshLimbs_any _ _ a (HA.out.below (by exact hT.below.drew) (Nat.le_refl _))).mono ?_; rintro e w1 ⟨rfl, hr1, hb1⟩; have hT1 := hT.drew.later hb1; obtain ⟨p0, p1, -, -⟩ := hT1.fst)
   | (go_at_call 95; refine (signed_any _ _ _ a n (FreshPost.lim hr1 (by omega)) hna).mono ?_; rintro e w2 ⟨r, rfl, hr, hb2⟩; have hT2 := hT1.later hb2; obtain ⟨p0', p1', -, -⟩ := hT2.fst; obtain ⟨c0, c1, f0, f1⟩ := hT2.res; have HR := hide hr; obtain ⟨rn, rs, rz, rfl, hl, -⟩ := hr; obtain ⟨ro, rcap, rfl, -⟩ := hl))
 have e : (if (!an) = true then -lv a else lv a) = -x := by rw [HX.out]; cases an <;> simp
 rw [e] at HR
 have HF := hide (boxed (w := w) HR.out c0 c1 (by simp) (by simp) hT2.below (by omega))
 clear hT hT1 hT2 hb1 hb2 HR e hr1
 go_wp2
 exact bodyPost_ret (v := .agg #[.bool rn, .slice ro rz.length rcap]) (by simp [results, Tryz.results55, go_sem, c0, c1]) rfl HF.out

set_option maxHeartbeats 800000 in
theorem sub_any (w : World) (va vb : Value) (x y : Int) (n : Nat) (ha : NumL w va x n) (hb : NumL w vb y n) (hn : n ≤ 900000) :
  Calls Tryz.prog 97 #[va, vb] w fun e w' => NumPost w (x - y) (n + 1) e w' := by
 obtain ⟨an, sa, a, rfl, hla, nra, -, hx, hna⟩ := ha
 obtain ⟨bn, sb, b, rfl, hlb, nrb, -, hy, hnb⟩ := hb
 have HA := hide hla
 have HB := hide hlb
 obtain ⟨ao, acap, rfl, -⟩ := hla
 obtain ⟨bo, bcap, rfl, -⟩ := hlb
 have HX := hide hx; clear hx
 have HY := hide hy; clear hy
 go_enter Tryz.func97, Tryz.ntmps97
 go_wp2_with fail
 have hT := three w (.bool an) (.slice ao a.length acap) (.bool bn) (.slice bo b.length bcap) (.bool false) (.slice none 0 0) 29 29 29
 refine (addSigned_any _ _ _ a _ _ b (HA.out.below hT.below (Nat.le_refl _)) (HB.out.below hT.below (Nat.le_refl _)) nra nrb n hna hnb hn).mono ?_
 rintro e w2 ⟨r, rfl, hr, hb2⟩
 have hT2 := hT.later hb2
 obtain ⟨c0, c1, f0, f1⟩ := hT2.res
 have HR := hide hr
 obtain ⟨rn, rs, rz, rfl, hl, -⟩ := hr
 obtain ⟨ro, rcap, rfl, -⟩ := hl
 have e : sg an (lv a) + sg (!bn) (lv b) = x - y := by rw [HX.out, HY.out]; unfold sg; cases an <;> cases bn <;> simp <;> omega
 rw [e] at HR
 have HF := hide (boxed (w := w) HR.out c0 c1 (by simp) (by simp) hT2.below (by simp))
 clear hT hT2 hb2 HR e
 go_wp2
 exact bodyPost_ret (v := .agg #[.bool rn, .slice ro rz.length rcap]) (by simp [results, Tryz.results97, go_sem, c0, c1]) rfl HF.out

end Go.Proofs.YtdedolkgcdlmeaaGreatDoor

/- Limbs divided by one limb. -/
namespace Go.Proofs.YtdedolkgcdlmeaaGreatDoor
open Go.RowKit Limbs

theorem or_join (hi lo : Int) (h0 : 0 ≤ hi) (h1 : hi < 4294967296) (h2 : 0 ≤ lo) (h3 : lo < 4294967296) : bits BinOp.or IntKind.u64 (hi * 4294967296) lo = hi * 4294967296 + lo := by
 rw [u64_or _ _ (by omega) (by omega) (by omega) (by omega), nat_join 32 _ _ (by omega) (by omega)]
 omega

theorem shl_join (hi lo : Int) (h0 : 0 ≤ hi) (h1 : hi < 4294967296) (h2 : 0 ≤ lo) (h3 : lo < 4294967296) : 0 ≤ hi * 4294967296 + lo ∧ hi * 4294967296 + lo < 18446744073709551616 := by omega

theorem quo_lt {hi lo y : Int} (h0 : 0 ≤ hi) (h1 : hi < y) (h2 : 0 ≤ lo) (h3 : lo < 4294967296) : 0 ≤ (hi * 4294967296 + lo) / y ∧ (hi * 4294967296 + lo) / y < 4294967296 := by
 have hy : 0 < y := by omega
 refine ⟨Int.ediv_nonneg (by omega) (by omega), ?_⟩
 rw [Int.ediv_lt_iff_lt_mul hy]
 have : (hi + 1) * 4294967296 ≤ y * 4294967296 := Int.mul_le_mul_of_nonneg_right (by omega) (by decide)
 rw [Int.mul_comm 4294967296 y]
 omega

def Drawn (w w' : World) : Prop := ∃ nq, w' = w.drewN nq

set_option maxRecDepth 100000 in
set_option maxHeartbeats 400000 in
theorem div32 (hi lo y : Int) (w : World) (h0 : 0 ≤ hi) (h1 : hi < y) (h2 : 0 ≤ lo) (h3 : lo < 4294967296) (h4 : y < 4294967296) :
  Calls Tryz.prog 153 #[.int .u32 hi, .int .u32 lo, .int .u32 y] w fun e w' => e = .returned (.tuple #[.int .u32 ((hi * 4294967296 + lo) / y), .int .u32 ((hi * 4294967296 + lo) % y)]) ∧ Drawn w w' := by
 have hor := or_join hi lo h0 (by omega) h2 h3
 have hsh := shl_join hi lo h0 (by omega) h2 h3
 have hq := quo_lt h0 h1 h2 h3
 have hr0 := Int.emod_nonneg (hi * 4294967296 + lo) (show y ≠ 0 by omega)
 have hr1 := Int.emod_lt_of_pos (hi * 4294967296 + lo) (show 0 < y by omega)
 have hy1 : (y != 0) = true := by rw [bne_iff_ne]; omega
 have hy2 : decide (y ≤ hi) = false := decide_eq_false (by omega)
 have hy3 : (y == 0) = false := by rw [beq_eq_false_iff_ne]; omega
 go_enter Tryz.func153, Tryz.ntmps153
 go_wp2
 go_quiet (fail)
 go_wp2
 go_ret2
 exact ⟨rfl, _, rfl⟩

theorem Row.drewN {w : World} {g : Nat} {zs : List Int} (h : Row w g zs) (n : Nat) : Row (w.drewN n) g zs := h

theorem grown_drewN {w w' : World} {r : Option Nat} (h : w.grownBy w' r) (n : Nat) : w.grownBy (w'.drewN n) r := ⟨h.os, h.tape, h.output, h.size, h.block⟩

theorem grown_set {w w' : World} {g : Nat} (h : w.grownBy w' (some g)) (k : Nat) (u : Value) : w.grownBy (w'.setCell ⟨g, k, none⟩ u) (some g) :=
 ⟨h.os, h.tape, h.output, by simpa using h.size, fun j hj hne => by
  rw [heap_setCell_other _ _ _ _ (fun e => hne (by simp [e]))]
  exact h.block j hj hne⟩

def DivInv (w wr : World) (g : Nat) (b : Int) (zs : List Int) (p : Nat) (r : Int) (qs : List Int) : Prop :=
 qs.length = zs.length ∧ Row wr g qs ∧ w.grownBy wr (some g) ∧ qs.take p = zs.take p ∧ lv (zs.drop p) = b * lv (qs.drop p) + r

theorem DivInv.start {w : World} {g : Nat} {zs : List Int} (h : Row w g zs) (b : Int) : DivInv w w g b zs zs.length 0 zs :=
 ⟨rfl, h, World.grownBy.refl _ _, rfl, by rw [List.drop_length]; simp [lv]⟩

theorem getD_of_take {a b : List Int} {p i : Nat} (h : a.take p = b.take p) (hi : i < p) : a.getD i 0 = b.getD i 0 := by
 rw [← getD_take a p i hi, h, getD_take b p i hi]

theorem DivInv.step {w wr : World} {g : Nat} {b : Int} {zs : List Int} {p : Nat} {r : Int} {qs : List Int} (h : DivInv w wr g b zs (p + 1) r qs) (hp : p < zs.length) {q s : Int} (hq : 0 ≤ q ∧ q < 4294967296) (hs : r * 4294967296 + zs.getD p 0 = b * q + s) (nq : Nat) :
  DivInv w ((wr.drewN nq).setCell ⟨g, p, none⟩ (.int .u32 q)) g b zs p s (qs.set p q) := by
 obtain ⟨h1, h2, h3, h4, h5⟩ := h
 refine ⟨by rw [List.length_set]; exact h1, (h2.drewN nq).store (by omega) hq, grown_set (grown_drewN h3 nq) _ _, ?_, ?_⟩
 ·rw [take_set_ge _ _ _ _ (Nat.le_refl _)]
  have := congrArg (List.take p) h4
  rwa [List.take_take, List.take_take, Nat.min_eq_left (by omega)] at this
 ·rw [drop_cons_getD zs p hp, drop_cons_getD (qs.set p q) p (by rw [List.length_set]; omega), drop_set_lt _ _ _ _ (Nat.lt_succ_self p), getD_set _ _ _ _ (by omega), if_pos rfl]
  simp only [lv]
  rw [h5, Int.mul_add, Int.mul_add]
  have e : b * (4294967296 * lv (qs.drop (p + 1))) = 4294967296 * (b * lv (qs.drop (p + 1))) := by rw [Int.mul_left_comm]
  rw [e]
  omega

def DivOnePost (w : World) (g : Nat) (b : Int) (zs : List Int) (e : Ending) (w' : World) : Prop :=
 ∃ r qs, e = .returned (.int .u32 r) ∧ 0 ≤ r ∧ r < b ∧ qs.length = zs.length ∧ Row w' g qs ∧ w.grownBy w' (some g) ∧ lv zs = b * lv qs + r

set_option maxRecDepth 100000 in
set_option maxHeartbeats 800000 in
theorem divByLimb_any (w : World) (g cap : Nat) (zs : List Int) (b : Int) (hr : Row w g zs) (hl : zs.length ≤ 1000000) (hb0 : 0 < b) (hb1 : b < 4294967296) :
  Calls Tryz.prog 137 #[.slice (some ⟨g, 0, none⟩) zs.length cap, .int .u32 b] w fun e w' => DivOnePost w g b zs e w' := by
 have HR := hide hr
 have hlb := hr.2.1
 clear hr
 go_enter Tryz.func137, Tryz.ntmps137
 go_wp2
 go_loopw [5, 10] (fun c i wr => ∃ (k : Nat) (r : Int) (qs : List Int), k ≤ zs.length ∧ i = .int .i64 k ∧ c = .int .u32 r ∧ 0 ≤ r ∧ r < b ∧ DivInv w wr g b zs (zs.length - k) r qs) (fun _ i _ => zs.length - (intOf i).toNat)
 case atStart => exact ⟨0, 0, zs, Nat.zero_le _, rfl, rfl, Int.le_refl _, hb0, DivInv.start HR.out b⟩
 case round =>
  obtain ⟨k, r, qs, hk, rfl, rfl, hr0, hr1, hinv⟩ := hrel
  by_cases hlt : k < zs.length
  ·obtain ⟨p, hp⟩ : ∃ p, p = zs.length - 1 - k := ⟨_, rfl⟩
   have hP : (zs.length : Int) - 1 - (k : Int) = (p : Int) := by omega
   have hpl : p < zs.length := by omega
   rw [show zs.length - k = p + 1 by omega] at hinv
   have hz := hlb p
   obtain ⟨hcell, hfr⟩ := hinv.2.1.2.2 p (by have := hinv.1; omega)
   rw [getD_of_take hinv.2.2.2.1 (Nat.lt_succ_self p)] at hcell
   have hst := fun q s hq hs nq => hinv.step hpl (q := q) (s := s) hq hs nq
   have HK := hide (show zs.length - (k + 1) = p by omega)
   clear hp
   generalize zs.getD p 0 = z at *
   go_wp2_with fail
   refine (div32 r z b _ hr0 hr1 hz.1 hz.2 hb1).mono ?_
   rintro e w' ⟨rfl, nq, rfl⟩
   have hq := quo_lt hr0 hr1 hz.1 hz.2
   have hm0 := Int.emod_nonneg (r * 4294967296 + z) (show b ≠ 0 by omega)
   have hm1 := Int.emod_lt_of_pos (r * 4294967296 + z) hb0
   have HS := hide (hst _ _ hq (Int.mul_ediv_add_emod (r * 4294967296 + z) b).symm nq)
   clear hst
   generalize (r * 4294967296 + z) / b = q at *
   generalize (r * 4294967296 + z) % b = s at *
   go_wp2
   go_roundw
   case rel => exact ⟨k + 1, s, _, by omega, by go_num, rfl, hm0, hm1, by rw [HK.out]; exact HS.out⟩
   case measure => simp [intOf]; omega
  ·obtain rfl : k = zs.length := by omega
   rw [Nat.sub_self] at hinv
   go_wp2
   go_ret
   exact ⟨r, qs, rfl, hr0, hr1, hinv.1, hinv.2.1, hinv.2.2.1, by have := hinv.2.2.2.2; simpa using this⟩

end Go.Proofs.YtdedolkgcdlmeaaGreatDoor

/- Groups of nine decimal digits. -/
namespace Go.Proofs.YtdedolkgcdlmeaaGreatDoor
open Go.RowKit Limbs

def gv : List Int → Int
 | [] => 0
 | x :: xs => x + 1000000000 * gv xs

def gp : Nat → Int
 | 0 => 1
 | n + 1 => 1000000000 * gp n

theorem gp_pos (n : Nat) : 0 < gp n := by
 induction n with
 | zero => simp [gp]
 | succ n ih => simp only [gp]; omega

theorem gp_mono {m n : Nat} (h : m ≤ n) : gp m ≤ gp n := by
 induction n with
 | zero => rw [Nat.le_zero.1 h]; exact Int.le_refl _
 | succ n ih =>
  by_cases e : m = n + 1
  ·rw [e]; exact Int.le_refl _
  ·have := ih (by omega); have := gp_pos n; simp only [gp]; omega

theorem gv_append (xs : List Int) (r : Int) : gv (xs ++ [r]) = gv xs + gp xs.length * r := by
 induction xs with
 | nil => simp [gv, gp]
 | cons x xs ih => simp only [List.cons_append, gv, ih, List.length_cons, gp]; rw [Int.mul_add, Int.mul_assoc]; omega

theorem bp_le_gp (n : Nat) : bp n ≤ gp (2 * n) := by
 induction n with
 | zero => simp [bp, gp]
 | succ n ih => rw [show 2 * (n + 1) = 2 * n + 1 + 1 by omega]; simp only [bp, gp]; have := gp_pos (2 * n); omega

theorem Row.take {w : World} {g : Nat} {zs : List Int} (h : Row w g zs) (n : Nat) : Row w g (zs.take n) := by
 obtain ⟨h1, h2, h3⟩ := h
 refine ⟨h1, LB_take h2 n, fun j hj => ?_⟩
 rw [List.length_take] at hj
 rw [getD_take zs n j (by omega)]
 exact h3 j (by omega)

theorem Row.kept {w w' : World} {g : Nat} {zs : List Int} {r : Option Nat} (h : Row w g zs) (hg : w.grownBy w' r) (hne : r ≠ some g) : Row w' g zs := by
 obtain ⟨h1, h2, h3⟩ := h
 have hb : w'.heap[g]? = w.heap[g]? := hg.block g h1 (fun e => hne e.symm)
 exact ⟨Nat.lt_of_lt_of_le h1 hg.size, h2, fun j hj => ⟨(World.cell?_of_block (a := ⟨g, j, none⟩) hb).trans (h3 j hj).1, (World.frozen?_of_block (a := ⟨g, j, none⟩) hb).trans (h3 j hj).2⟩⟩

def GrpInv (w wr : World) (zs : List Int) (v : Value) (gs ys : List Int) : Prop :=
 Row wr w.heap.size ys ∧ Nrm ys ∧ ys.length ≤ zs.length ∧ wr.ownsRow (w.heap.size + 1) 3 1 v gs.length (gs.map (Value.int .i64)) ∧ Below w.heap.size w wr ∧
  lv zs = gv gs + gp gs.length * lv ys ∧ (∀ g ∈ gs, 0 ≤ g ∧ g < 1000000000) ∧ (lv ys = 0 → gs.length = 0 ∨ gs.getD (gs.length - 1) 0 ≠ 0) ∧ lenOf v = gs.length ∧ w.heap.size < wr.heap.size ∧ 0 ≤ gv gs

theorem lenOf_owns {w : World} {base n : Nat} {e : TypeId} {v : Value} {xs : List Value} (h : w.ownsRow base e 1 v n xs) : lenOf v = n := by
 rcases h.2 with ⟨rfl, h0⟩ | ⟨g, cap, cur, rfl, _⟩
 ·simp [lenOf, h0]
 ·rfl

theorem GrpInv.few {w wr : World} {zs : List Int} {v : Value} {gs ys : List Int} (h : GrpInv w wr zs v gs ys) (hlb : LB zs) (hy : ys.length ≠ 0) : gs.length < 2 * zs.length := by
 obtain ⟨h1, h2, h3, h4, h5, h6, h7, h8, h9, h10, h11⟩ := h
 have e1 := lv_pos h1.2.1 h2 hy
 have e2 := lv_lt hlb
 have e3 := bp_le_gp zs.length
 have e4 := gp_pos gs.length
 have e5 : gp gs.length * 1 ≤ gp gs.length * lv ys := Int.mul_le_mul_of_nonneg_left (by omega) (by omega)
 by_cases hk : gs.length < 2 * zs.length
 ·exact hk
 ·have := gp_mono (m := 2 * zs.length) (n := gs.length) (by omega)
  omega

theorem GrpInv.step {w wr w1 w2 : World} {zs : List Int} {v v' : Value} {gs ys qs : List Int} {r : Int} {m : Nat} (h : GrpInv w wr zs v gs ys) (hr0 : 0 ≤ r) (hr1 : r < 1000000000)
  (hq : qs.length = ys.length) (hrow : Row w1 w.heap.size qs) (hg1 : wr.grownBy w1 (some w.heap.size)) (hlv : lv ys = 1000000000 * lv qs + r) (hpos : lv ys ≠ 0)
  (hown : w2.ownsRow (w.heap.size + 1) 3 1 v' (gs.length + 1) (gs.map (Value.int .i64) ++ [.int .i64 r])) (hg2 : (w1.alloc (.cells #[.int .i64 r] 3)).grownBy w2 v.ownBlock)
  (hm : m ≤ qs.length) (hlm : lv (qs.take m) = lv qs) (hnm : Nrm (qs.take m)) : GrpInv w w2 zs v' (gs ++ [r]) (qs.take m) := by
 obtain ⟨h1, h2, h3, h4, h5, h6, h7, h8, h9, h10, h11⟩ := h
 have hne : v.ownBlock ≠ some w.heap.size := fun e => by have := h4.lt _ e; omega
 have hbase : ∀ k, v.ownBlock = some k → w.heap.size ≤ k := fun k e => by have := h4.lt _ e; omega
 have b1 := h5.grown hg1 (by omega) (fun k hk => by simp at hk; omega)
 have b2 := b1.alloc b1.size (.cells #[.int .i64 r] 3)
 have b3 := b2.grown hg2 (by simp; have := b1.size; omega) hbase
 refine ⟨((hrow.kept (World.grownBy_alloc w1 _ none) (by simp)).kept hg2 hne).take m, hnm, by rw [List.length_take]; omega, ?_, b3, ?_, ?_, ?_, ?_, ?_, ?_⟩
 ·rw [List.length_append, List.map_append]; exact hown
 ·rw [gv_append, List.length_append, hlm, h6, hlv]
  simp only [List.length_singleton, gp]
  rw [Int.mul_add]
  have e : gp gs.length * (1000000000 * lv qs) = 1000000000 * gp gs.length * lv qs := by rw [Int.mul_left_comm, Int.mul_assoc]
  rw [e]
  omega
 ·intro g hg
  rcases List.mem_append.1 hg with hg | hg
  ·exact h7 g hg
  ·rw [List.mem_singleton.1 hg]; exact ⟨hr0, hr1⟩
 ·intro h0
  right
  rw [hlm] at h0
  rw [List.length_append, List.length_singleton, Nat.add_sub_cancel, List.getD_eq_getElem?_getD, List.getElem?_append_right (Nat.le_refl _), Nat.sub_self]
  simp
  omega
 ·rw [lenOf_owns hown]; simp
 ·have := b1.size; have := hg2.size; simp at this; have := h10; have := hg1.size; omega
 ·rw [gv_append]
  have := Int.mul_nonneg (show 0 ≤ gp gs.length from by have := gp_pos gs.length; omega) hr0
  omega

theorem trim_at (w : World) (ao : Option Addr) (cap : Nat) (zs : List Int) (n : Nat) (hn : zs.length = n) (h : Lim w (.slice ao n cap) zs) :
  Calls Tryz.prog 124 #[.slice ao n cap] w fun e w' => TrimPost w ao cap zs e w' := by
 subst hn; exact trim_any w ao cap zs h

def GrpPost (w : World) (zs : List Int) (e : Ending) (w' : World) : Prop :=
 ∃ v gs, e = .returned v ∧ w'.ownsRow (w.heap.size + 1) 3 1 v gs.length (gs.map (Value.int .i64)) ∧ Below w.heap.size w w' ∧ lv zs = gv gs ∧ (∀ g ∈ gs, 0 ≤ g ∧ g < 1000000000) ∧ (gs.length = 0 ∨ gs.getD (gs.length - 1) 0 ≠ 0) ∧ gs.length ≤ 2 * zs.length

theorem Tryz.infoInt : (Tryz.prog.info? 3).map (fun i => (i.zero, i.size, i.bytes)) = some (some (.int .i64 0), 1, 8) := by kernel_rfl

set_option maxRecDepth 100000 in
set_option maxHeartbeats 1000000 in
theorem digitGroups_any (w : World) (v : Value) (zs : List Int) (h : Lim w v zs) (hn : Nrm zs) :
  Calls Tryz.prog 117 #[v] w fun e w' => GrpPost w zs e w' := by
 have HL := hide h
 obtain ⟨ao, cap, rfl, hcap, hlen, hlb, hc⟩ := h
 clear hc
 obtain ⟨i0, hi, hz0, hz1, hz2⟩ := info_parts Tryz.infoInt
 go_enter Tryz.func117, Tryz.ntmps117
 go_wp2_with fail
 refine (freshLimbs_any _ _ zs HL.out).mono ?_
 rintro e w1 ⟨rfl, hr1, hb1⟩
 go_wp2
 go_loopw [3, 4] (fun g t wr => ∃ gs ys : List Int, t = .slice (some ⟨w.heap.size, 0, none⟩) ys.length zs.length ∧ gs.length ≤ 2 * zs.length ∧ GrpInv w wr zs g gs ys) (fun g _ _ => 2 * zs.length - lenOf g)
 case atStart => exact ⟨[], zs, rfl, Nat.zero_le _, hr1, hn, Nat.le_refl _, World.ownsRow_nil _ _ _ _, hb1, by simp [gv, gp], by simp, fun _ => .inl rfl, rfl, hr1.1, by simp [gv]⟩
 case round =>
  obtain ⟨gs, ys, rfl, hgl, hinv⟩ := hrel
  by_cases hy : ys.length = 0
  ·have HF : Hid (GrpPost w zs (.returned u3) wr) := by
    obtain ⟨h1, h2, h3, h4, h5, h6, h7, h8, h9, h10, h11⟩ := hinv
    have e0 : ys = [] := List.eq_nil_of_length_eq_zero hy
    subst e0
    exact ⟨_, gs, rfl, h4, h5, by simpa [lv] using h6, h7, h8 rfl, hgl⟩
   clear hinv
   go_wp2
   go_ret
   exact HF.out
  ·have hfew := hinv.few hlb hy
   have hpos := lv_pos hinv.1.2.1 hinv.2.1 hy
   have hyl := hinv.2.2.1
   have hle9 := hinv.2.2.2.2.2.2.2.2.1
   have hown := hinv.2.2.2.1
   have hwz := hinv.2.2.2.2.2.2.2.2.2.1
   go_wp2_with fail
   refine (divByLimb_any wr w.heap.size zs.length ys 1000000000 hinv.1 (by omega) (by decide) (by decide)).mono ?_
   rintro e w2 ⟨r, qs, rfl, hr0, hr1', hql, hrow, hg1, hlv⟩
   have hst := fun v' w3 m hown' hg2 hm hlm hnm => hinv.step (v' := v') (w2 := w3) (m := m) hr0 hr1' hql hrow hg1 hlv (by omega) hown' hg2 hm hlm hnm
   have HS := hide hst
   have hown2 := hown.kept hg1 (.inr (fun e => by have := hown.lt _ e; omega))
   have hw2 := hg1.size
   have HR := hide hrow
   clear hst hinv hrow hg1 hown
   have HLV := hide hlv; clear hlv
   go_wp2_with (at_builtin; refine wpList_append_lies _ rfl _ _ 38 rfl (w.heap.size + 1) 3 i0 (.int .i64 0) 1 8 Tryz.underlying38 hi hz0 hz1 hz2 rfl (by decide) u3 gs.length (gs.map (Value.int .i64)) rfl (hown2.alloc _) ⟨w2.heap.size, 0, none⟩ 1 1 [.int .i64 r] rfl rfl ?c1 ?c2 (by decide) ?c3 ?c4 ?c5 (w2.heap.size + 1) (by simp) ?_)
   case c1 => exact World.news_of_block (heap_alloc_new w2 _)
   case c2 => intro u hu; simp at hu; subst hu; rfl
   case c3 => unfold maxLen; omega
   case c4 => omega
   case c5 => simp; omega
   intro g cap' w3 hown3 hgrow3 hat3 hlt3
   have hRw3 : Row w3 w.heap.size qs := (HR.out.kept (World.grownBy_alloc w2 _ none) (by simp)).kept hgrow3 (fun e => by have := hown2.lt _ e; omega)
   clear hat3
   go_wp2_with fail
   refine (trim_at w3 _ zs.length qs ys.length hql (hql ▸ hRw3.lim zs.length (by omega) (by omega))).mono ?_
   rintro e w4 ⟨m, hm, rfl, hlm, hnm, rfl⟩
   have HF := hide (HS.out _ _ m hown3 hgrow3 hm hlm hnm)
   have hml : (qs.take m).length = m := by rw [List.length_take]; omega
   have hll := lenOf_owns hown3
   clear hown3 hgrow3 hlm hnm HS hRw3 HR hown2
   go_wp2
   go_roundw
   case rel => exact ⟨gs ++ [r], qs.take m, by rw [hml], by rw [List.length_append, List.length_singleton]; omega, HF.out⟩
   case measure =>
    show 2 * zs.length - (gs.length + 1) < 2 * zs.length - lenOf u3
    omega

end Go.Proofs.YtdedolkgcdlmeaaGreatDoor

/- Rows that one more is put to. -/
namespace Go.Proofs.YtdedolkgcdlmeaaGreatDoor
open Go.RowKit Limbs

theorem heap_lt {w : World} {b : Nat} {o : Obj} (h : w.heap[b]? = some o) : b < w.heap.size := by
 rcases Nat.lt_or_ge b w.heap.size with hlt | hge
 ·exact hlt
 ·rw [Array.getElem?_eq_none hge] at h; cases h

theorem below_app {wr w3 : World} {B n : Nat} {t : TypeId} {v x : Value} {xs : List Value} (hown : wr.ownsRow B t 1 v n xs) (hB : B ≤ wr.heap.size) (hg : (wr.alloc (.cells #[x] t)).grownBy w3 v.ownBlock) : Below B wr w3 :=
 ((Below.refl _ _).alloc hB _).grown hg (by simp; omega) (fun k hk => (hown.lt k hk).1)

theorem Lim.owns {w : World} {base n : Nat} {v : Value} {ls : List Int} (h : w.ownsRow base 104 1 v n (ls.map (Value.int .u32))) (hd : LB ls) (hl : ls.length ≤ 1000000) : Lim w v ls := by
 have hn : n = ls.length := by have := h.1; rw [List.length_map] at this; omega
 subst hn
 rcases h.2 with ⟨rfl, h0⟩ | ⟨g, cap, cur, rfl, hb, hg, hc, hm, hs, ht⟩
 ·have : ls = [] := List.eq_nil_of_length_eq_zero h0
  subst this
  exact ⟨none, 0, rfl, Nat.le_refl _, by simp, hd, fun h => absurd h (by simp)⟩
 ·refine ⟨_, cap, rfl, hc, hl, hd, fun h0 => ⟨g, 0, rfl, heap_lt hg, fun i hi => ?_⟩⟩
  have := h.cellAt i (by omega)
  rw [Nat.zero_add, this]
  simp [List.getD_eq_getElem?_getD, hi]

theorem LB_snoc {ls : List Int} (h : LB ls) {r : Int} (hr : 0 ≤ r ∧ r < 4294967296) : LB (ls ++ [r]) := by
 intro i
 rw [List.getD_eq_getElem?_getD]
 rcases Nat.lt_trichotomy i ls.length with hi | hi | hi
 ·rw [List.getElem?_append_left hi, ← List.getD_eq_getElem?_getD]; exact h i
 ·subst hi; simp; omega
 ·rw [List.getElem?_eq_none (by simp; omega)]; simp

theorem lv_snoc (ls : List Int) (r : Int) : lv (ls ++ [r]) = lv ls + bp ls.length * r := by
 rw [lv_append]; simp [lv]

end Go.Proofs.YtdedolkgcdlmeaaGreatDoor

/- A vector of one's own, being made: each place is a number; one of them is written. -/
namespace Go.Proofs.YtdedolkgcdlmeaaGreatDoor
open Go.RowKit Limbs

theorem Tryz.infoNum : (Tryz.prog.info? 29).map (fun i => (i.zero, i.size, i.bytes)) = some (some (.agg #[.bool false, .slice none 0 0]), 2, 32) := by kernel_rfl

theorem run_mkV (m : Nat) (hm : m ≤ 1000) (W : World) : (Instr.makeSlice 72 (.int .i64 (m : Int)) (.int .i64 (m : Int))).run Tryz.prog W = .ok (.slice (some ⟨W.heap.size, 0, none⟩) m m) (W.alloc (.cells (madeCells #[.bool false, .slice none 0 0] (m * 2)) 29)) := by
 obtain ⟨i0, hi, hz0, hz1, hz2⟩ := info_parts Tryz.infoNum
 have h := run_make (P := Tryz.prog) W 72 29 i0 (.agg #[.bool false, .slice none 0 0]) (by kernel_rfl) hi hz0 .i64 .i64 m m (by omega) (by omega) (by rw [hz2]; omega) (by omega)
 rw [hz1, Int.toNat_natCast] at h
 exact h

theorem NumL.nought (w : World) (n : Nat) : NumL w (.agg #[.bool false, .slice none 0 0]) 0 n :=
 ⟨false, .slice none 0 0, [], rfl, ⟨none, 0, rfl, Nat.le_refl _, by simp, LB_nil, fun h => absurd h (by simp)⟩, Or.inl rfl, fun _ => rfl, by simp [lv], by simp⟩

structure VecO (w W : World) (P : Nat) (zs : List Int) (n : Nat) : Prop where
 vec : VecN W (.slice (some ⟨P, 0, none⟩) zs.length zs.length) zs n
 low : w.heap.size ≤ P
 below : Below w.heap.size w W
 blk : ∃ cs, W.heap[P]? = some (.cells cs 29)

theorem VecO.lt {w W : World} {P : Nat} {zs : List Int} {n : Nat} (h : VecO w W P zs n) : P < W.heap.size := by
 obtain ⟨cs, e⟩ := h.blk
 exact heap_lt e

theorem VecO.later {w W W' : World} {P : Nat} {zs : List Int} {n : Nat} (h : VecO w W P zs n) (hb : Below W.heap.size W W') : VecO w W' P zs n where
 vec := h.vec.below hb (Nat.le_refl _)
 low := h.low
 below := h.below.trans (hb.mono h.below.size)
 blk := by obtain ⟨cs, e⟩ := h.blk; exact ⟨cs, (hb.block _ (heap_lt e)).trans e⟩

theorem VecO.drew {w W : World} {P : Nat} {zs : List Int} {n : Nat} (h : VecO w W P zs n) : VecO w W.drew P zs n := ⟨h.vec, h.low, h.below.drew, h.blk⟩

theorem VecO.thaw {w W : World} {P : Nat} {zs : List Int} {n : Nat} (h : VecO w W P zs n) (k : Nat) : W.frozen? ⟨P, k, none⟩ = false := by
 obtain ⟨cs, e⟩ := h.blk
 simp [World.frozen?, e]

theorem VecN.mono {w : World} {v : Value} {zs : List Int} {n m : Nat} (h : VecN w v zs n) (hm : n ≤ m) : VecN w v zs m := by
 obtain ⟨ao, cap, hv, h1, h2⟩ := h
 refine ⟨ao, cap, hv, h1, fun h0 => ?_⟩
 obtain ⟨b, off, e, hlt, hc⟩ := h2 h0
 refine ⟨b, off, e, hlt, fun i hi => ?_⟩
 obtain ⟨neg, o, l, c, h3, h4, h5⟩ := hc i hi
 exact ⟨neg, o, l, c, h3, h4, h5.mono hm⟩

theorem made_cell (m i : Nat) (hi : i < m) : (madeCells #[.bool false, .slice none 0 0] (m * 2))[i * 2]? = some (.bool false) ∧ (madeCells #[.bool false, .slice none 0 0] (m * 2))[i * 2 + 1]? = some (.slice none 0 0) := by
 have h1 : i * 2 < m * 2 := by omega
 have h2 : i * 2 + 1 < m * 2 := by omega
 have e1 : i * 2 % 2 = 0 := by omega
 have e2 : (i * 2 + 1) % 2 = 1 := by omega
 constructor
 ·simp [madeCells, h1, e1]
 ·simp [madeCells, h2, e2]

theorem VecO.made (w W : World) (hb : Below w.heap.size w W) (m n : Nat) : VecO w (W.alloc (.cells (madeCells #[.bool false, .slice none 0 0] (m * 2)) 29)) W.heap.size (List.replicate m 0) n where
 vec := by
  refine ⟨_, _, rfl, Nat.le_refl _, fun h0 => ⟨_, _, rfl, by simp, fun i hi => ⟨false, none, 0, 0, ?_, ?_, ?_⟩⟩⟩
  ·rw [List.length_replicate] at hi
   rw [Nat.zero_add, World.cell?_alloc_new]
   exact (made_cell m i hi).1
  ·rw [List.length_replicate] at hi
   rw [Nat.zero_add, World.cell?_alloc_new]
   exact (made_cell m i hi).2
  ·have e : (List.replicate m (0 : Int)).getD i 0 = 0 := by
    rw [List.getD_eq_getElem?_getD, List.getElem?_replicate]
    split <;> rfl
   rw [e]
   exact NumL.nought _ _
 low := hb.size
 below := hb.alloc hb.size _
 blk := ⟨_, heap_alloc_new W _⟩

theorem VecO.at {w W : World} {P : Nat} {zs : List Int} {n : Nat} (h : VecO w W P zs n) (i : Nat) (hi : i < zs.length) : ∃ (neg : Bool) (o : Option Addr) (l c : Nat), W.cell? ⟨P, i * 2, none⟩ = some (.bool neg) ∧ W.cell? ⟨P, i * 2 + 1, none⟩ = some (.slice o l c) ∧ NumL W (.agg #[.bool neg, .slice o l c]) (zs.getD i 0) n := by
 have := (h.vec.at i hi).2
 simpa only [Nat.zero_add] using this

theorem VecO.set {w W : World} {P : Nat} {zs : List Int} {n : Nat} (h : VecO w W P zs n) {k : Nat} (hk : k < zs.length) {neg : Bool} {o : Option Addr} {l c : Nat} {z : Int} (hz : NumL W (.agg #[.bool neg, .slice o l c]) z n) :
  VecO w ((W.setCell ⟨P, k * 2, none⟩ (.bool neg)).setCell ⟨P, k * 2 + 1, none⟩ (.slice o l c)) P (zs.set k z) n := by
 obtain ⟨neg0, o0, l0, c0, k0, k1, -⟩ := h.at k hk
 have k1' : (W.setCell ⟨P, k * 2, none⟩ (.bool neg)).cell? ⟨P, k * 2 + 1, none⟩ = some (.slice o0 l0 c0) := (World.cell?_setCell_other (h := fun e => by simp at e) ..).trans k1
 have keep : ∀ {v : Value} {y : Int}, NumL W v y n → NumL ((W.setCell ⟨P, k * 2, none⟩ (.bool neg)).setCell ⟨P, k * 2 + 1, none⟩ (.slice o l c)) v y n := fun hv =>
  (hv.setCell k0 (fun z e => by cases e)).setCell k1' (fun z e => by cases e)
 have hlen : (zs.set k z).length = zs.length := List.length_set
 refine ⟨?_, h.low, (h.below.setCell (by exact h.low) _).setCell (by exact h.low) _, ?_⟩
 ·refine ⟨_, _, rfl, by omega, fun h0 => ⟨_, _, rfl, by simpa using h.lt, fun i hi => ?_⟩⟩
  rw [hlen] at hi
  by_cases hik : i = k
  ·subst hik
   refine ⟨neg, o, l, c, ?_, ?_, ?_⟩
   ·rw [Nat.zero_add]
    exact (World.cell?_setCell_other (h := fun e => by simp at e) ..).trans (World.cell?_setCell_same (h := k0) ..)
   ·rw [Nat.zero_add]
    exact World.cell?_setCell_same (h := k1') ..
   ·have e : (zs.set i z).getD i 0 = z := by
     rw [List.getD_eq_getElem?_getD, List.getElem?_set_self hi]; rfl
    rw [e]
    exact keep hz
  ·obtain ⟨neg1, o1, l1, c1, m0, m1, m2⟩ := h.at i hi
   refine ⟨neg1, o1, l1, c1, ?_, ?_, ?_⟩
   ·rw [Nat.zero_add]
    exact ((World.cell?_setCell_other (h := fun e => by simp at e <;> omega) ..).trans (World.cell?_setCell_other (h := fun e => by simp at e <;> omega) ..)).trans m0
   ·rw [Nat.zero_add]
    exact ((World.cell?_setCell_other (h := fun e => by simp at e <;> omega) ..).trans (World.cell?_setCell_other (h := fun e => by simp at e <;> omega) ..)).trans m1
   ·have e : (zs.set k z).getD i 0 = zs.getD i 0 := by
     rw [List.getD_eq_getElem?_getD, List.getD_eq_getElem?_getD, List.getElem?_set_ne (by omega)]
    rw [e]
    exact keep m2
 ·obtain ⟨cs, e⟩ := h.blk
  exact ⟨_, heap_setCell_same _ P (k * 2 + 1) _ _ _ (heap_setCell_same W P (k * 2) _ _ _ e)⟩

theorem fill_step (zs : List Int) (k : Nat) (hk : k < zs.length) : (zs.take k ++ List.replicate (zs.length - k) 0).set k (zs.getD k 0) = zs.take (k + 1) ++ List.replicate (zs.length - (k + 1)) 0 := by
 have e : zs.length - k = (zs.length - (k + 1)) + 1 := by omega
 have hl : (zs.take k).length = k := by rw [List.length_take]; omega
 rw [e, List.replicate_succ, List.set_append_right _ _ (by omega), hl, Nat.sub_self, List.set_cons_zero, List.take_succ_eq_append_getElem hk, List.getD_eq_getElem?_getD, List.getElem?_eq_getElem hk, Option.getD_some, List.append_assoc, List.singleton_append]

theorem fill_len (zs : List Int) (k : Nat) (hk : k ≤ zs.length) : (zs.take k ++ List.replicate (zs.length - k) 0).length = zs.length := by
 rw [List.length_append, List.length_take, List.length_replicate]; omega

end Go.Proofs.YtdedolkgcdlmeaaGreatDoor

/- Rows of vectors. -/
namespace Go.Proofs.YtdedolkgcdlmeaaGreatDoor
open Go.RowKit Limbs

theorem Tryz.infoVec : (Tryz.prog.info? 72).map (fun i => (i.zero, i.size, i.bytes)) = some (some (.slice none 0 0), 1, 24) := by kernel_rfl

theorem ownsRow_later {W W' : World} {base : Nat} {e : TypeId} {size : Nat} {v : Value} {n : Nat} {xs : List Value} (h : W.ownsRow base e size v n xs) (hb : Below W.heap.size W W') : W'.ownsRow base e size v n xs := by
 refine ⟨h.1, ?_⟩
 rcases h.2 with hn | ⟨g, cap, cur, e, hbg, hh, rest⟩
 ·exact .inl hn
 ·exact .inr ⟨g, cap, cur, e, hbg, (hb.block _ (heap_lt hh)).trans hh, rest⟩

theorem owns_below {base : Nat} {wr w3 : World} {e : TypeId} {size : Nat} {v : Value} {n : Nat} {xs : List Value} {ob : Obj} (h : wr.ownsRow base e size v n xs) (hB : base ≤ wr.heap.size) (hg : (wr.alloc ob).grownBy w3 v.ownBlock) : Below base wr w3 :=
 ((Below.refl _ _).alloc hB _).grown hg (by simp; omega) (fun k hk => (h.lt k hk).1)

def MatN (w : World) (v : Value) (zss : List (List Int)) (n : Nat) : Prop :=
 ∃ ao cap, v = .slice ao zss.length cap ∧ zss.length ≤ cap ∧ (0 < zss.length → ∃ b off, ao = some ⟨b, off, none⟩ ∧ b < w.heap.size ∧ ∀ i zs, zss[i]? = some zs → ∃ u, w.cell? ⟨b, off + i, none⟩ = some u ∧ VecN w u zs n)

theorem MatN.below {B : Nat} {w w' : World} {v : Value} {zss : List (List Int)} {n : Nat} (h : MatN w v zss n) (hb : Below B w w') (hB : w.heap.size ≤ B) : MatN w' v zss n := by
 obtain ⟨ao, cap, hv, h1, h2⟩ := h
 refine ⟨ao, cap, hv, h1, fun h0 => ?_⟩
 obtain ⟨b, off, e, hlt, hc⟩ := h2 h0
 refine ⟨b, off, e, Nat.lt_of_lt_of_le hlt hb.size, fun i zs hi => ?_⟩
 obtain ⟨u, h3, h4⟩ := hc i zs hi
 exact ⟨u, (hb.cell (p := ⟨b, off + i, none⟩) (Nat.lt_of_lt_of_le hlt hB)).trans h3, h4.below hb hB⟩

theorem MatN.at {W : World} {v : Value} {zss : List (List Int)} {n : Nat} (h : MatN W v zss n) (i : Nat) (hi : i < zss.length) : ∃ b off cap, v = .slice (some ⟨b, off, none⟩) zss.length cap ∧ b < W.heap.size ∧ ∃ u, W.cell? ⟨b, off + i, none⟩ = some u ∧ VecN W u zss[i] n := by
 obtain ⟨ao, cap, rfl, -, h2⟩ := h
 obtain ⟨b, off, rfl, hlt, hc⟩ := h2 (by omega)
 obtain ⟨u, h3, h4⟩ := hc i zss[i] (by simp [hi])
 exact ⟨b, off, cap, rfl, hlt, u, h3, h4⟩

theorem matN_of_owns {W : World} {base : Nat} {v : Value} {qs : List (Value × List Int)} {n : Nat} (h : W.ownsRow base 72 1 v qs.length (qs.map (·.1))) (h2 : ∀ q ∈ qs, VecN W q.1 q.2 n) : MatN W v (qs.map (·.2)) n := by
 obtain ⟨-, h1⟩ := h
 have hlen : (qs.map (·.2)).length = qs.length := List.length_map ..
 rcases h1 with ⟨rfl, hn⟩ | ⟨g, cap, cur, rfl, hb, hh, hc1, hc2, hc3, hc4⟩
 ·exact ⟨none, 0, by rw [hlen, hn], by rw [hlen]; omega, fun h0 => absurd h0 (by rw [hlen]; omega)⟩
 ·refine ⟨_, cap, by rw [hlen], by rw [hlen]; exact hc1, fun h0 => ⟨g, 0, rfl, heap_lt hh, fun i zs hi => ?_⟩⟩
  obtain ⟨hi', e⟩ := List.getElem?_eq_some_iff.1 hi
  rw [hlen] at hi'
  have e' : zs = qs[i].2 := by rw [← e, List.getElem_map]
  have := World.news_of_block hh i qs[i].1 (by
   have e : (qs.map (·.1))[i]? = some qs[i].1 := by rw [List.getElem?_map, List.getElem?_eq_getElem hi']; rfl
   rw [← hc4, List.getElem?_take, if_pos (by omega)] at e
   exact e)
  have ea : (⟨g, 0, none⟩ : Addr).add i = ⟨g, i, none⟩ := by unfold Addr.add; split <;> simp_all
  rw [ea] at this
  exact ⟨_, by rw [Nat.zero_add]; exact this, by rw [e']; exact h2 _ (List.getElem_mem hi')⟩

end Go.Proofs.YtdedolkgcdlmeaaGreatDoor
