/- Vectors of numbers; are two the same? -/
import Derived.Test.YtcnllfnikajddaaVecA
import Derived.Test.YtcnllfnikajddaaDivOne
import Derived.Deep.RegionHeld3
import Derived.Test.YtcnllfnikajddaaDivL
import Derived.OwnWalk
import Derived.Laws.MakeOwn
import Derived.Test.YtcnllfnikajddaaGcdA

namespace Go.Proofs.Ytcnllfnikajddaa
open Go.RowKit Limbs

def VecN (w : World) (v : Value) (zs : List Int) (n : Nat) : Prop :=
 ∃ ao cap, v = .slice ao zs.length cap ∧ zs.length ≤ cap ∧
  (0 < zs.length → ∃ b off, ao = some ⟨b, off, none⟩ ∧ b < w.heap.size ∧ ∀ i, i < zs.length → ∃ (neg : Bool) (o : Option Addr) (l c : Nat), w.cell? ⟨b, off + i * 2, none⟩ = some (.bool neg) ∧ w.cell? ⟨b, off + i * 2 + 1, none⟩ = some (.slice o l c) ∧ NumL w (.agg #[.bool neg, .slice o l c]) (zs.getD i 0) n)

theorem VecN.below {C : Nat} {w w' : World} {v : Value} {zs : List Int} {n : Nat} (h : VecN w v zs n) (hb : Below C w w') (hC : w.heap.size ≤ C) : VecN w' v zs n := by
 obtain ⟨ao, cap, hv, h1, h2⟩ := h
 refine ⟨ao, cap, hv, h1, fun h0 => ?_⟩
 obtain ⟨b, off, e, hlt, hc⟩ := h2 h0
 refine ⟨b, off, e, Nat.lt_of_lt_of_le hlt hb.size, fun i hi => ?_⟩
 obtain ⟨neg, o, l, c, h3, h4, h5⟩ := hc i hi
 exact ⟨neg, o, l, c, (hb.cell (p := ⟨b, off + i * 2, none⟩) (Nat.lt_of_lt_of_le hlt hC)).trans h3, (hb.cell (p := ⟨b, off + i * 2 + 1, none⟩) (Nat.lt_of_lt_of_le hlt hC)).trans h4, h5.below hb hC⟩

theorem VecN.at {w : World} {b off cap : Nat} {zs : List Int} {n : Nat} (h : VecN w (.slice (some ⟨b, off, none⟩) zs.length cap) zs n) (i : Nat) (hi : i < zs.length) : b < w.heap.size ∧ ∃ (neg : Bool) (o : Option Addr) (l c : Nat), w.cell? ⟨b, off + i * 2, none⟩ = some (.bool neg) ∧ w.cell? ⟨b, off + i * 2 + 1, none⟩ = some (.slice o l c) ∧ NumL w (.agg #[.bool neg, .slice o l c]) (zs.getD i 0) n := by
 obtain ⟨_, _, e, -, hc⟩ := h
 simp only [Value.slice.injEq, true_and] at e
 obtain ⟨rfl, rfl⟩ := e
 obtain ⟨_, _, e, hlt, hc⟩ := hc (by omega)
 simp only [Option.some.injEq, Addr.mk.injEq, and_true] at e
 obtain ⟨rfl, rfl⟩ := e
 exact ⟨hlt, hc i hi⟩

theorem VecN.form {w : World} {v : Value} {zs : List Int} {n : Nat} (h : VecN w v zs n) (h0 : 0 < zs.length) : ∃ b off cap, v = .slice (some ⟨b, off, none⟩) zs.length cap := by
 obtain ⟨ao, cap, rfl, -, hc⟩ := h
 obtain ⟨b, off, rfl, -⟩ := hc h0
 exact ⟨b, off, cap, rfl⟩

theorem take_eq_succ {zs ys : List Int} {k : Nat} (h1 : k < zs.length) (h2 : k < ys.length) (h : zs.take k = ys.take k) (e : zs.getD k 0 = ys.getD k 0) : zs.take (k + 1) = ys.take (k + 1) := by
 rw [List.take_succ_eq_append_getElem h1, List.take_succ_eq_append_getElem h2, h]
 rw [List.getD_eq_getElem?_getD, List.getD_eq_getElem?_getD, List.getElem?_eq_getElem h1, List.getElem?_eq_getElem h2] at e
 simp only [Option.getD_some] at e
 rw [e]

end Go.Proofs.Ytcnllfnikajddaa

/- Rows that one more is put to. -/
namespace Go.Proofs.Ytcnllfnikajddaa
open Go.RowKit Limbs

end Go.Proofs.Ytcnllfnikajddaa

/- A vector of one's own, being made: each place is a number; one of them is written. -/
namespace Go.Proofs.Ytcnllfnikajddaa
open Go.RowKit Limbs

theorem Try.infoNum : (Try.prog.info? 75).map (fun i => (i.zero, i.size, i.bytes)) = some (some (.agg #[.bool false, .slice none 0 0]), 2, 32) := by kernel_rfl

theorem run_mkV (m : Nat) (hm : m ≤ 1000) (W : World) : (Instr.makeSlice 59 (.int .i64 (m : Int)) (.int .i64 (m : Int))).run Try.prog W = .ok (.slice (some ⟨W.heap.size, 0, none⟩) m m) (W.alloc (.cells (madeCells #[.bool false, .slice none 0 0] (m * 2)) 75)) := by
 obtain ⟨i0, hi, hz0, hz1, hz2⟩ := info_parts Try.infoNum
 have h := run_make (P := Try.prog) W 59 75 i0 (.agg #[.bool false, .slice none 0 0]) (by kernel_rfl) hi hz0 .i64 .i64 m m (by omega) (by omega) (by rw [hz2]; omega) (by omega)
 rw [hz1, Int.toNat_natCast] at h
 exact h

theorem NumL.nought (w : World) (n : Nat) : NumL w (.agg #[.bool false, .slice none 0 0]) 0 n :=
 ⟨false, .slice none 0 0, [], rfl, ⟨none, 0, rfl, Nat.le_refl _, by simp, LB_nil, fun h => absurd h (by simp)⟩, Or.inl rfl, fun _ => rfl, by simp [lv], by simp⟩

structure VecO (w W : World) (P : Nat) (zs : List Int) (n : Nat) : Prop where
 vec : VecN W (.slice (some ⟨P, 0, none⟩) zs.length zs.length) zs n
 low : w.heap.size ≤ P
 below : Below w.heap.size w W
 blk : ∃ cs, W.heap[P]? = some (.cells cs 75)

theorem VecO.lt {w W : World} {P : Nat} {zs : List Int} {n : Nat} (h : VecO w W P zs n) : P < W.heap.size := by
 obtain ⟨cs, e⟩ := h.blk
 exact heap_lt e

theorem VecO.later {w W W' : World} {P : Nat} {zs : List Int} {n : Nat} (h : VecO w W P zs n) (hb : Below W.heap.size W W') : VecO w W' P zs n where
 vec := h.vec.below hb (Nat.le_refl _)
 low := h.low
 below := h.below.trans (hb.mono h.below.size)
 blk := by obtain ⟨cs, e⟩ := h.blk; exact ⟨cs, (hb.block _ (heap_lt e)).trans e⟩

theorem VecO.drew {w W : World} {P : Nat} {zs : List Int} {n : Nat} (h : VecO w W P zs n) : VecO w W.drew P zs n := ⟨h.vec, h.low, h.below.drew, h.blk⟩

theorem VecO.thaw {w W : World} {P : Nat} {zs : List Int} {n : Nat} (h : VecO w W P zs n) (k : Nat) : W.frozen? ⟨P, k, none⟩ = false := by
 obtain ⟨cs, e⟩ := h.blk
 simp [World.frozen?, e]

theorem VecN.mono {w : World} {v : Value} {zs : List Int} {n m : Nat} (h : VecN w v zs n) (hm : n ≤ m) : VecN w v zs m := by
 obtain ⟨ao, cap, hv, h1, h2⟩ := h
 refine ⟨ao, cap, hv, h1, fun h0 => ?_⟩
 obtain ⟨b, off, e, hlt, hc⟩ := h2 h0
 refine ⟨b, off, e, hlt, fun i hi => ?_⟩
 obtain ⟨neg, o, l, c, h3, h4, h5⟩ := hc i hi
 exact ⟨neg, o, l, c, h3, h4, h5.mono hm⟩

theorem made_cell (m i : Nat) (hi : i < m) : (madeCells #[.bool false, .slice none 0 0] (m * 2))[i * 2]? = some (.bool false) ∧ (madeCells #[.bool false, .slice none 0 0] (m * 2))[i * 2 + 1]? = some (.slice none 0 0) := by
 have h1 : i * 2 < m * 2 := by omega
 have h2 : i * 2 + 1 < m * 2 := by omega
 have e1 : i * 2 % 2 = 0 := by omega
 have e2 : (i * 2 + 1) % 2 = 1 := by omega
 constructor
 ·simp [madeCells, h1, e1]
 ·simp [madeCells, h2, e2]

theorem VecO.made (w W : World) (hb : Below w.heap.size w W) (m n : Nat) : VecO w (W.alloc (.cells (madeCells #[.bool false, .slice none 0 0] (m * 2)) 75)) W.heap.size (List.replicate m 0) n where
 vec := by
  refine ⟨_, _, rfl, Nat.le_refl _, fun h0 => ⟨_, _, rfl, by simp, fun i hi => ⟨false, none, 0, 0, ?_, ?_, ?_⟩⟩⟩
  ·rw [List.length_replicate] at hi
   rw [Nat.zero_add, World.cell?_alloc_new]
   exact (made_cell m i hi).1
  ·rw [List.length_replicate] at hi
   rw [Nat.zero_add, World.cell?_alloc_new]
   exact (made_cell m i hi).2
  ·have e : (List.replicate m (0 : Int)).getD i 0 = 0 := by
    rw [List.getD_eq_getElem?_getD, List.getElem?_replicate]
    split <;> rfl
   rw [e]
   exact NumL.nought _ _
 low := hb.size
 below := hb.alloc hb.size _
 blk := ⟨_, heap_alloc_new W _⟩

theorem VecO.at {w W : World} {P : Nat} {zs : List Int} {n : Nat} (h : VecO w W P zs n) (i : Nat) (hi : i < zs.length) : ∃ (neg : Bool) (o : Option Addr) (l c : Nat), W.cell? ⟨P, i * 2, none⟩ = some (.bool neg) ∧ W.cell? ⟨P, i * 2 + 1, none⟩ = some (.slice o l c) ∧ NumL W (.agg #[.bool neg, .slice o l c]) (zs.getD i 0) n := by
 have := (h.vec.at i hi).2
 simpa only [Nat.zero_add] using this

theorem VecO.set {w W : World} {P : Nat} {zs : List Int} {n : Nat} (h : VecO w W P zs n) {k : Nat} (hk : k < zs.length) {neg : Bool} {o : Option Addr} {l c : Nat} {z : Int} (hz : NumL W (.agg #[.bool neg, .slice o l c]) z n) :
  VecO w ((W.setCell ⟨P, k * 2, none⟩ (.bool neg)).setCell ⟨P, k * 2 + 1, none⟩ (.slice o l c)) P (zs.set k z) n := by
 obtain ⟨neg0, o0, l0, c0, k0, k1, -⟩ := h.at k hk
 have k1' : (W.setCell ⟨P, k * 2, none⟩ (.bool neg)).cell? ⟨P, k * 2 + 1, none⟩ = some (.slice o0 l0 c0) := (World.cell?_setCell_other (h := fun e => by simp at e) ..).trans k1
 have keep : ∀ {v : Value} {y : Int}, NumL W v y n → NumL ((W.setCell ⟨P, k * 2, none⟩ (.bool neg)).setCell ⟨P, k * 2 + 1, none⟩ (.slice o l c)) v y n := fun hv =>
  (hv.setCell k0 (fun z e => by cases e)).setCell k1' (fun z e => by cases e)
 have hlen : (zs.set k z).length = zs.length := List.length_set
 refine ⟨?_, h.low, (h.below.setCell (by exact h.low) _).setCell (by exact h.low) _, ?_⟩
 ·refine ⟨_, _, rfl, by omega, fun h0 => ⟨_, _, rfl, by simpa using h.lt, fun i hi => ?_⟩⟩
  rw [hlen] at hi
  by_cases hik : i = k
  ·subst hik
   refine ⟨neg, o, l, c, ?_, ?_, ?_⟩
   ·rw [Nat.zero_add]
    exact (World.cell?_setCell_other (h := fun e => by simp at e) ..).trans (World.cell?_setCell_same (h := k0) ..)
   ·rw [Nat.zero_add]
    exact World.cell?_setCell_same (h := k1') ..
   ·have e : (zs.set i z).getD i 0 = z := by
     rw [List.getD_eq_getElem?_getD, List.getElem?_set_self hi]; rfl
    rw [e]
    exact keep hz
  ·obtain ⟨neg1, o1, l1, c1, m0, m1, m2⟩ := h.at i hi
   refine ⟨neg1, o1, l1, c1, ?_, ?_, ?_⟩
   ·rw [Nat.zero_add]
    exact ((World.cell?_setCell_other (h := fun e => by simp at e <;> omega) ..).trans (World.cell?_setCell_other (h := fun e => by simp at e <;> omega) ..)).trans m0
   ·rw [Nat.zero_add]
    exact ((World.cell?_setCell_other (h := fun e => by simp at e <;> omega) ..).trans (World.cell?_setCell_other (h := fun e => by simp at e <;> omega) ..)).trans m1
   ·have e : (zs.set k z).getD i 0 = zs.getD i 0 := by
     rw [List.getD_eq_getElem?_getD, List.getD_eq_getElem?_getD, List.getElem?_set_ne (by omega)]
    rw [e]
    exact keep m2
 ·obtain ⟨cs, e⟩ := h.blk
  exact ⟨_, heap_setCell_same _ P (k * 2 + 1) _ _ _ (heap_setCell_same W P (k * 2) _ _ _ e)⟩

theorem fill_step (zs : List Int) (k : Nat) (hk : k < zs.length) : (zs.take k ++ List.replicate (zs.length - k) 0).set k (zs.getD k 0) = zs.take (k + 1) ++ List.replicate (zs.length - (k + 1)) 0 := by
 have e : zs.length - k = (zs.length - (k + 1)) + 1 := by omega
 have hl : (zs.take k).length = k := by rw [List.length_take]; omega
 rw [e, List.replicate_succ, List.set_append_right _ _ (by omega), hl, Nat.sub_self, List.set_cons_zero, List.take_succ_eq_append_getElem hk, List.getD_eq_getElem?_getD, List.getElem?_eq_getElem hk, Option.getD_some, List.append_assoc, List.singleton_append]

theorem fill_len (zs : List Int) (k : Nat) (hk : k ≤ zs.length) : (zs.take k ++ List.replicate (zs.length - k) 0).length = zs.length := by
 rw [List.length_append, List.length_take, List.length_replicate]; omega

end Go.Proofs.Ytcnllfnikajddaa

/- Vectors made of numbers of 64 bits; the first place that isn't nought. -/
namespace Go.Proofs.Ytcnllfnikajddaa
open Go.RowKit Limbs

def VecPost (w : World) (zs : List Int) (n : Nat) (e : Ending) (w' : World) : Prop :=
 ∃ P, e = .returned (.slice (some ⟨P, 0, none⟩) zs.length zs.length) ∧ VecO w w' P zs n

theorem VecO.full {w W : World} {P : Nat} {zs : List Int} {n : Nat} (h : VecO w W P (zs.take zs.length ++ List.replicate (zs.length - zs.length) 0) n) : VecO w W P zs n := by
 rwa [List.take_length, Nat.sub_self, List.replicate_zero, List.append_nil] at h

def first : List Int → Int
 | [] => -1
 | z :: zs => if z = 0 then (if first zs < 0 then -1 else first zs + 1) else 0

def firstFrom (zs : List Int) (k : Nat) : Int := if first (zs.drop k) < 0 then -1 else first (zs.drop k) + k

end Go.Proofs.Ytcnllfnikajddaa

/- Sums, differences and multiples of vectors. -/
namespace Go.Proofs.Ytcnllfnikajddaa
open Go.RowKit Limbs

theorem zip_getD (f : Int → Int → Int) (xs ys : List Int) (h : xs.length = ys.length) (k : Nat) (hk : k < xs.length) : (List.zipWith f xs ys).getD k 0 = f (xs.getD k 0) (ys.getD k 0) := by
 rw [List.getD_eq_getElem?_getD, List.getElem?_zipWith, List.getD_eq_getElem?_getD, List.getD_eq_getElem?_getD, List.getElem?_eq_getElem hk, List.getElem?_eq_getElem (by omega)]
 rfl

theorem zip_len (f : Int → Int → Int) (xs ys : List Int) (h : xs.length = ys.length) : (List.zipWith f xs ys).length = xs.length := by
 rw [List.length_zipWith]; omega

theorem map_getD' (f : Int → Int) (xs : List Int) (k : Nat) (hk : k < xs.length) : (xs.map f).getD k 0 = f (xs.getD k 0) := by
 rw [List.getD_eq_getElem?_getD, List.getElem?_map, List.getD_eq_getElem?_getD, List.getElem?_eq_getElem hk]
 rfl

theorem box_vec {W : World} {P : Nat} {A : Nat} {u0 u1 : Value} (hA : Box W A u0 u1) (hne : A ≠ P) (k : Nat) (v0 v1 : Value) : Box ((W.setCell ⟨P, k * 2, none⟩ v0).setCell ⟨P, k * 2 + 1, none⟩ v1) A u0 u1 :=
 (hA.other hne _ _).other hne _ _

set_option maxRecDepth 100000 in
set_option maxHeartbeats 4000000 in
theorem scaleV_any (w : World) (vk va : Value) (z : Int) (xs : List Int) (m n : Nat) (hk : NumL w vk z m) (ha : VecN w va xs n) (h8 : xs.length ≤ 1000) (hm : m ≤ 200000) (hn : n ≤ 200000) :
  Calls Try.prog 55 #[vk, va] w fun e w' => VecPost w (xs.map (z * ·)) (m + n) e w' := by
 have HA := hide ha; have HK := hide hk
 obtain ⟨⟨kn, ko, kl, kc⟩, rfl⟩ := hk.nm
 have hlt : (xs.map (z * ·)).length = xs.length := List.length_map ..
 have HZ := hide (map_getD' (z * ·) xs)
 obtain ⟨ao, acap, rfl, -, -⟩ := ha
 clear hk
 have hmk := run_mkV xs.length (by omega)
 have HI : Hid (VecO w ((w.alloc (.cells #[.bool kn, .slice ko kl kc] 75)).alloc (.cells (madeCells #[.bool false, .slice none 0 0] (xs.length * 2)) 75)) (w.heap.size + 1) (List.replicate (xs.map (z * ·)).length 0) (m + n)) := by
  rw [hlt]
  have := VecO.made w (w.alloc (.cells #[.bool kn, .slice ko kl kc] 75)) ((Below.refl _ _).alloc (Nat.le_refl _) _) xs.length (m + n)
  rwa [World.size_alloc] at this
 have HX : Hid (Box ((w.alloc (.cells #[.bool kn, .slice ko kl kc] 75)).alloc (.cells (madeCells #[.bool false, .slice none 0 0] (xs.length * 2)) 75)) w.heap.size (.bool kn) (.slice ko kl kc)) :=
  (box_new w _ _ _ _ rfl).later ((Below.refl _ _).alloc (by simp) _ : Below (w.heap.size + 1) _ _) (by omega)
 have hpost : ∀ W, VecO w W (w.heap.size + 1) (xs.map (z * ·)) (m + n) → VecPost w (xs.map (z * ·)) (m + n) (.returned (.slice (some ⟨w.heap.size + 1, 0, none⟩) xs.length xs.length)) W := fun W h => ⟨_, by rw [hlt], h⟩
 have HPOST := hide hpost
 clear hpost
 generalize hts : xs.map (z * ·) = ts at *
 clear hts
 go_enter Try.func55, Try.ntmps55
 go_wp2
 clear hmk
 go_loopw [12] (fun i wr => ∃ k : Nat, k ≤ xs.length ∧ i = .int .i64 k ∧ VecO w wr (w.heap.size + 1) (ts.take k ++ List.replicate (ts.length - k) 0) (m + n) ∧ Hid (Box wr w.heap.size (.bool kn) (.slice ko kl kc))) (fun i _ => xs.length - (intOf i).toNat)
 case atStart => exact ⟨0, Nat.zero_le _, rfl, HI.out, HX⟩
 case round =>
  clear HI HX
  obtain ⟨k, hk, rfl, hinv, HX⟩ := hrel
  have HI := hide hinv
  clear hinv
  by_cases hkl : k < xs.length
  ·obtain ⟨ab, aoff, _, e⟩ := HA.out.form (by omega)
   simp only [Value.slice.injEq, true_and] at e
   obtain ⟨rfl, rfl⟩ := e
   obtain ⟨la, an, ao, al, ac, a0, a1, na⟩ := (HA.out.below HI.out.below (Nat.le_refl _)).at k hkl
   obtain ⟨b0, b1, -, -⟩ := HX.out
   have NA := hide na
   have NK' : NumL wr (.agg #[.bool kn, .slice ko kl kc]) z m := HK.out.below HI.out.below (Nat.le_refl _)
   have HFS := hide (fill_step ts k (by omega))
   rw [HZ.out k hkl] at HFS
   have hfl := fill_len ts k (by omega)
   clear na
   generalize xs.getD k 0 = x at *
   go_wp2_with fail
   refine upto_start (S := (fun w' => w'.cell? ⟨ab, aoff + k * 2, none⟩ = some (.bool an) ∧ w'.cell? ⟨ab, aoff + k * 2 + 1, none⟩ = some (.slice ao al ac) ∧ w'.cell? ⟨w.heap.size, 0, none⟩ = some (.bool kn) ∧ w'.cell? ⟨w.heap.size, 1, none⟩ = some (.slice ko kl kc))) (k := 9) (by kernel_rfl) (by (try dsimp only); go_keep) (fun hHeld => ?_)
   refine upto_run (v := ?_) 0 15 [8, 9] rfl rfl (by kernel_rfl) (by kernel_rfl) (by kernel_rfl) (by kernel_rfl) (by kernel_rfl) (fun _ _ _ h => h) (by rfl) ?_ (by assumption) ?_
   rotate_left
   ·(intro w hSw; (try dsimp only at hSw); go_simp; with_reducible rfl)
   simp only [Act.put, List.setIfInBounds_toArray, List.set_cons_zero, List.set_cons_succ]
   refine upto_run (v := ?_) 1 16 [8, 9] rfl rfl (by kernel_rfl) (by kernel_rfl) (by kernel_rfl) (by kernel_rfl) (by kernel_rfl) (fun _ _ _ h => h) (by rfl) ?_ (by assumption) ?_
   rotate_left
   ·(intro w hSw; (try dsimp only at hSw); go_simp; with_reducible rfl)
   simp only [Act.put, List.setIfInBounds_toArray, List.set_cons_zero, List.set_cons_succ]
   refine upto_run (v := ?_) 2 17 [7, 9] rfl rfl (by kernel_rfl) (by kernel_rfl) (by kernel_rfl) (by kernel_rfl) (by kernel_rfl) (fun _ _ _ h => h) (by rfl) ?_ (by assumption) ?_
   rotate_left
   ·(intro w hSw; (try dsimp only at hSw); go_simp; with_reducible rfl)
   simp only [Act.put, List.setIfInBounds_toArray, List.set_cons_zero, List.set_cons_succ]
   refine upto_run (v := ?_) 3 18 [5, 6, 7, 9] rfl rfl (by kernel_rfl) (by kernel_rfl) (by kernel_rfl) (by kernel_rfl) (by kernel_rfl) (fun _ _ _ h => h) (by rfl) ?_ (by assumption) ?_
   rotate_left
   ·(intro w hSw; (try dsimp only at hSw); go_simp; with_reducible rfl)
   simp only [Act.put, List.setIfInBounds_toArray, List.set_cons_zero, List.set_cons_succ]
   refine upto_run (v := ?_) 4 19 [5, 6, 7, 9] rfl rfl (by kernel_rfl) (by kernel_rfl) (by kernel_rfl) (by kernel_rfl) (by kernel_rfl) (fun _ _ _ h => h) (by rfl) ?_ (by assumption) ?_
   rotate_left
   ·(intro w hSw; (try dsimp only at hSw); go_simp; with_reducible rfl)
   simp only [Act.put, List.setIfInBounds_toArray, List.set_cons_zero, List.set_cons_succ]
   refine upto_run (v := ?_) 5 20 [6, 7, 9] rfl rfl (by kernel_rfl) (by kernel_rfl) (by kernel_rfl) (by kernel_rfl) (by kernel_rfl) (fun _ _ _ h => h) (by rfl) ?_ (by assumption) ?_
   rotate_left
   ·(intro w hSw; (try dsimp only at hSw); go_simp; with_reducible rfl)
   simp only [Act.put, List.setIfInBounds_toArray, List.set_cons_zero, List.set_cons_succ]
   refine upto_run (v := ?_) 6 21 [7, 9] rfl rfl (by kernel_rfl) (by kernel_rfl) (by kernel_rfl) (by kernel_rfl) (by kernel_rfl) (fun _ _ _ h => h) (by rfl) ?_ (by assumption) ?_
   rotate_left
   ·(intro w hSw; (try dsimp only at hSw); go_simp; with_reducible rfl)
   simp only [Act.put, List.setIfInBounds_toArray, List.set_cons_zero, List.set_cons_succ]
   refine upto_one 7 (by kernel_rfl) rfl (fun K hK => ?_)
   go_simp
   (refine (mul_any _ _ _ z x m n (by exact NK') (by exact NA.out) (by omega) (by omega)).mono ?_; rintro e w2 ⟨r, rfl, hr, hb⟩; obtain ⟨⟨rn, ro, rl, rc⟩, rfl⟩ := hr.nm; have HI2 := hide (HI.out.drew.later hb); obtain ⟨neg0, o0, l0, c0', k0, k1, -⟩ := HI2.out.at k (by omega); have f0 := HI2.out.thaw (k * 2); have f1 := HI2.out.thaw (k * 2 + 1); have hP := HI2.out.lt; have p0 := (hb.cell (p := ⟨ab, aoff + k * 2, none⟩) la).trans a0; have p1 := (hb.cell (p := ⟨ab, aoff + k * 2 + 1, none⟩) la).trans a1; have HX2 := hide (show Box w2 w.heap.size _ _ from HX.out.later (drewed hb) (show w.heap.size < wr.heap.size by have := HI.out.lt; omega)); obtain ⟨p2, p3, -, -⟩ := HX2.out; have HN := hide (HI2.out.set (k := k) (by omega) hr); have HXN := hide (box_vec (P := w.heap.size + 1) HX2.out (by omega) k (.bool rn) (.slice ro rl rc)); rw [HFS.out] at HN; clear hb hr HI HI2 HFS)
   go_wp2_with fail
   refine hK.out _ _ (fun _ => by (try dsimp only); go_keep) ?_
   clear hK K
   try simp only [Act.put, List.setIfInBounds_toArray, List.set_cons_zero, List.set_cons_succ]
   refine upto_one 8 (by kernel_rfl) rfl (fun K hK => ?_)
   go_simp
   refine hK.out _ _ (fun _ => by (try dsimp only); go_keep) ?_
   clear hK K
   try simp only [Act.put, List.setIfInBounds_toArray, List.set_cons_zero, List.set_cons_succ]
   refine upto_one 9 (by kernel_rfl) rfl (fun K hK => ?_)
   go_simp
   refine hK.out _ _ (fun h => absurd h (by decide)) ?_
   clear hK K
   try simp only [Act.put, List.setIfInBounds_toArray, List.set_cons_zero, List.set_cons_succ]
   refine upto_done (by kernel_rfl) ?_
   clear p0 p1 p2 p3 a0 a1 b0 b1 k0 k1 f0 f1 NA NK'
   go_wp2
   go_roundw
   case rel => exact ⟨k + 1, by omega, by go_num, HN.out, HXN⟩
   case measure => simp [intOf]; omega
  ·obtain rfl : k = xs.length := by omega
   have HF : Hid (VecO w wr (w.heap.size + 1) ts (m + n)) := by
    have := HI.out
    rw [← hlt] at this
    exact this.full
   have HQ := hide (HPOST.out wr HF.out)
   clear HI HF HPOST HX
   go_wp2
   go_ret
   exact HQ.out

end Go.Proofs.Ytcnllfnikajddaa

/- So much of one vector, and so much of another one; the vector or its opposite. -/
namespace Go.Proofs.Ytcnllfnikajddaa
open Go.RowKit Limbs

theorem NumL.sgn {w : World} {neg : Bool} {s : Value} {z : Int} {n : Nat} (h : NumL w (.agg #[.bool neg, s]) z n) : (neg = true → z < 0) ∧ (neg = false → 0 ≤ z) := by
 obtain ⟨neg', s', zs, e, hl, hn, h0, hz, -⟩ := h
 simp only [Value.agg.injEq, Array.mk.injEq, List.cons.injEq, Value.bool.injEq, and_true] at e
 obtain ⟨rfl, rfl⟩ := e
 have hlb : LB zs := by obtain ⟨_, _, _, _, _, h, _⟩ := hl; exact h
 have hp := lv_nonneg hlb
 have hz0 := lv_zero_iff hlb hn
 constructor
 ·intro e
  subst e
  have : zs.length ≠ 0 := fun h => by simpa using h0 h
  have : lv zs ≠ 0 := fun h => this (hz0.1 h)
  simp at hz
  omega
 ·intro e
  subst e
  simp at hz
  omega

theorem two_set {w W : World} {a0 a1 b0 b1 : Value} (h : Two w W a0 a1 b0 b1) (k : Nat) (v0 v1 : Value) : Two w ((W.setCell ⟨w.heap.size + 2, k * 2, none⟩ v0).setCell ⟨w.heap.size + 2, k * 2 + 1, none⟩ v1) a0 a1 b0 b1 :=
 ⟨(h.fst.other (by omega) _ _).other (by omega) _ _, (h.res.other (by omega) _ _).other (by omega) _ _, (h.below.setCell (by simp) _).setCell (by simp) _, by simpa using h.size⟩

set_option maxRecDepth 100000 in
set_option maxHeartbeats 4000000 in
theorem mix_any (w : World) (vx va vy vb : Value) (x y : Int) (us vs : List Int) (nx na ny nb m : Nat) (hx : NumL w vx x nx) (ha : VecN w va us na) (hy : NumL w vy y ny) (hb : VecN w vb vs nb) (hl : us.length = vs.length) (h8 : us.length ≤ 1000)
  (h1 : nx + na ≤ m) (h2 : ny + nb ≤ m) (hm : m ≤ 400000) :
  Calls Try.prog 53 #[vx, va, vy, vb] w fun e w' => VecPost w (List.zipWith (fun p q => x * p + y * q) us vs) (m + 1) e w' := by
 have HA := hide ha; have HB := hide hb; have HX := hide hx; have HY := hide hy
 have hlt := zip_len (fun p q => x * p + y * q) us vs hl
 have HZ := hide (zip_getD (fun p q => x * p + y * q) us vs hl)
 obtain ⟨⟨xn, xo, xl, xc⟩, rfl⟩ := hx.nm
 obtain ⟨⟨yn, yo, yl, yc⟩, rfl⟩ := hy.nm
 obtain ⟨ao, acap, rfl, -, -⟩ := ha
 obtain ⟨bo, bcap, rfl, -, -⟩ := hb
 clear hx hy
 have HL := hide hl
 clear hl
 have hmk := run_mkV us.length (by omega)
 have hT := two w (.bool xn) (.slice xo xl xc) (.bool yn) (.slice yo yl yc) 75 75
 have HI : Hid (VecO w (((w.alloc (.cells #[.bool xn, .slice xo xl xc] 75)).alloc (.cells #[.bool yn, .slice yo yl yc] 75)).alloc (.cells (madeCells #[.bool false, .slice none 0 0] (us.length * 2)) 75)) (w.heap.size + 2) (List.replicate (List.zipWith (fun p q => x * p + y * q) us vs).length 0) (m + 1)) := by
  rw [hlt]
  have := VecO.made w ((w.alloc (.cells #[.bool xn, .slice xo xl xc] 75)).alloc (.cells #[.bool yn, .slice yo yl yc] 75)) hT.below us.length (m + 1)
  rwa [World.size_alloc, World.size_alloc] at this
 have HTW := hide (hT.later ((Below.refl _ _).alloc (Nat.le_refl _) (.cells (madeCells #[.bool false, .slice none 0 0] (us.length * 2)) 75)))
 have HPOST : Hid (∀ W, VecO w W (w.heap.size + 2) (List.zipWith (fun p q => x * p + y * q) us vs) (m + 1) → VecPost w (List.zipWith (fun p q => x * p + y * q) us vs) (m + 1) (.returned (.slice (some ⟨w.heap.size + 2, 0, none⟩) us.length us.length)) W) := fun W h => ⟨_, by rw [hlt], h⟩
 clear hT
 generalize List.zipWith (fun p q => x * p + y * q) us vs = ts at *
 go_enter Try.func53, Try.ntmps53
 go_wp2
 clear hmk
 go_loopw [16] (fun i wr => ∃ k : Nat, k ≤ us.length ∧ i = .int .i64 k ∧ VecO w wr (w.heap.size + 2) (ts.take k ++ List.replicate (ts.length - k) 0) (m + 1) ∧ Hid (Two w wr (.bool xn) (.slice xo xl xc) (.bool yn) (.slice yo yl yc))) (fun i _ => us.length - (intOf i).toNat)
 case atStart => exact ⟨0, Nat.zero_le _, rfl, HI.out, HTW⟩
 case round =>
  clear HI HTW
  obtain ⟨k, hk, rfl, hinv, HTW⟩ := hrel
  have HI := hide hinv
  clear hinv
  by_cases hkl : k < us.length
  ·obtain ⟨ab, aoff, _, e⟩ := HA.out.form (by omega)
   simp only [Value.slice.injEq, true_and] at e
   obtain ⟨rfl, rfl⟩ := e
   obtain ⟨bb, boff, _, e⟩ := HB.out.form (by have := HL.out; omega)
   simp only [Value.slice.injEq, true_and] at e
   obtain ⟨rfl, rfl⟩ := e
   have hky : k < vs.length := by have := HL.out; omega
   obtain ⟨la, an, ao, al, ac, a2, a3, na'⟩ := (HA.out.below HI.out.below (Nat.le_refl _)).at k hkl
   obtain ⟨lb, bn, bo, bl, bc, a6, a7, nb'⟩ := (HB.out.below HI.out.below (Nat.le_refl _)).at k hky
   have NA := hide na'; have NB := hide nb'
   obtain ⟨a0, a1, -, -⟩ := HTW.out.fst
   obtain ⟨a4, a5, -, -⟩ := HTW.out.res
   have lx : w.heap.size < wr.heap.size := by have := HTW.out.size; omega
   have ly : w.heap.size + 1 < wr.heap.size := HTW.out.size
   have NX : NumL wr (.agg #[.bool xn, .slice xo xl xc]) x nx := HX.out.below HI.out.below (Nat.le_refl _)
   have NY : NumL wr (.agg #[.bool yn, .slice yo yl yc]) y ny := HY.out.below HI.out.below (Nat.le_refl _)
   have HFS := hide (fill_step ts k (by omega))
   rw [HZ.out k hkl] at HFS
   have hfl := fill_len ts k (by omega)
   clear na' nb'
   generalize us.getD k 0 = p at *
   generalize vs.getD k 0 = q at *
   go_wp2_with fail
   refine upto_start (S := (fun w' => w'.cell? ⟨w.heap.size, 0, none⟩ = some (.bool xn) ∧ w'.cell? ⟨w.heap.size, 1, none⟩ = some (.slice xo xl xc) ∧ w'.cell? ⟨ab, aoff + k * 2, none⟩ = some (.bool an) ∧ w'.cell? ⟨ab, aoff + k * 2 + 1, none⟩ = some (.slice ao al ac) ∧ w'.cell? ⟨w.heap.size + 1, 0, none⟩ = some (.bool yn) ∧ w'.cell? ⟨w.heap.size + 1, 1, none⟩ = some (.slice yo yl yc) ∧ w'.cell? ⟨bb, boff + k * 2, none⟩ = some (.bool bn) ∧ w'.cell? ⟨bb, boff + k * 2 + 1, none⟩ = some (.slice bo bl bc))) (k := 16) (by kernel_rfl) (by (try dsimp only); go_keep) (fun hHeld => ?_)
   refine upto_run (v := ?_) 0 19 [15, 16] rfl rfl (by kernel_rfl) (by kernel_rfl) (by kernel_rfl) (by kernel_rfl) (by kernel_rfl) (fun _ _ _ h => h) (by rfl) ?_ (by assumption) ?_
   rotate_left
   ·(intro w hSw; (try dsimp only at hSw); go_simp; with_reducible rfl)
   simp only [Act.put, List.setIfInBounds_toArray, List.set_cons_zero, List.set_cons_succ]
   refine upto_run (v := ?_) 1 20 [15, 16] rfl rfl (by kernel_rfl) (by kernel_rfl) (by kernel_rfl) (by kernel_rfl) (by kernel_rfl) (fun _ _ _ h => h) (by rfl) ?_ (by assumption) ?_
   rotate_left
   ·(intro w hSw; (try dsimp only at hSw); go_simp; with_reducible rfl)
   simp only [Act.put, List.setIfInBounds_toArray, List.set_cons_zero, List.set_cons_succ]
   refine upto_run (v := ?_) 2 21 [7, 14, 16] rfl rfl (by kernel_rfl) (by kernel_rfl) (by kernel_rfl) (by kernel_rfl) (by kernel_rfl) (fun _ _ _ h => h) (by rfl) ?_ (by assumption) ?_
   rotate_left
   ·(intro w hSw; (try dsimp only at hSw); go_simp; with_reducible rfl)
   simp only [Act.put, List.setIfInBounds_toArray, List.set_cons_zero, List.set_cons_succ]
   refine upto_run (v := ?_) 3 22 [5, 6, 7, 14, 16] rfl rfl (by kernel_rfl) (by kernel_rfl) (by kernel_rfl) (by kernel_rfl) (by kernel_rfl) (fun _ _ _ h => h) (by rfl) ?_ (by assumption) ?_
   rotate_left
   ·(intro w hSw; (try dsimp only at hSw); go_simp; with_reducible rfl)
   simp only [Act.put, List.setIfInBounds_toArray, List.set_cons_zero, List.set_cons_succ]
   refine upto_run (v := ?_) 4 23 [5, 6, 7, 14, 16] rfl rfl (by kernel_rfl) (by kernel_rfl) (by kernel_rfl) (by kernel_rfl) (by kernel_rfl) (fun _ _ _ h => h) (by rfl) ?_ (by assumption) ?_
   rotate_left
   ·(intro w hSw; (try dsimp only at hSw); go_simp; with_reducible rfl)
   simp only [Act.put, List.setIfInBounds_toArray, List.set_cons_zero, List.set_cons_succ]
   refine upto_run (v := ?_) 5 24 [6, 7, 14, 16] rfl rfl (by kernel_rfl) (by kernel_rfl) (by kernel_rfl) (by kernel_rfl) (by kernel_rfl) (fun _ _ _ h => h) (by rfl) ?_ (by assumption) ?_
   rotate_left
   ·(intro w hSw; (try dsimp only at hSw); go_simp; with_reducible rfl)
   simp only [Act.put, List.setIfInBounds_toArray, List.set_cons_zero, List.set_cons_succ]
   refine upto_run (v := ?_) 6 25 [7, 14, 16] rfl rfl (by kernel_rfl) (by kernel_rfl) (by kernel_rfl) (by kernel_rfl) (by kernel_rfl) (fun _ _ _ h => h) (by rfl) ?_ (by assumption) ?_
   rotate_left
   ·(intro w hSw; (try dsimp only at hSw); go_simp; with_reducible rfl)
   simp only [Act.put, List.setIfInBounds_toArray, List.set_cons_zero, List.set_cons_succ]
   refine upto_run (v := ?_) 8 27 [13, 14, 16] rfl rfl (by kernel_rfl) (by kernel_rfl) (by kernel_rfl) (by kernel_rfl) (by kernel_rfl) (fun _ _ _ h => h) (by rfl) ?_ (by assumption) ?_
   rotate_left
   ·(intro w hSw; (try dsimp only at hSw); go_simp; with_reducible rfl)
   simp only [Act.put, List.setIfInBounds_toArray, List.set_cons_zero, List.set_cons_succ]
   refine upto_run (v := ?_) 9 28 [11, 12, 13, 14, 16] rfl rfl (by kernel_rfl) (by kernel_rfl) (by kernel_rfl) (by kernel_rfl) (by kernel_rfl) (fun _ _ _ h => h) (by rfl) ?_ (by assumption) ?_
   rotate_left
   ·(intro w hSw; (try dsimp only at hSw); go_simp; with_reducible rfl)
   simp only [Act.put, List.setIfInBounds_toArray, List.set_cons_zero, List.set_cons_succ]
   refine upto_run (v := ?_) 10 29 [11, 12, 13, 14, 16] rfl rfl (by kernel_rfl) (by kernel_rfl) (by kernel_rfl) (by kernel_rfl) (by kernel_rfl) (fun _ _ _ h => h) (by rfl) ?_ (by assumption) ?_
   rotate_left
   ·(intro w hSw; (try dsimp only at hSw); go_simp; with_reducible rfl)
   simp only [Act.put, List.setIfInBounds_toArray, List.set_cons_zero, List.set_cons_succ]
   refine upto_run (v := ?_) 11 30 [12, 13, 14, 16] rfl rfl (by kernel_rfl) (by kernel_rfl) (by kernel_rfl) (by kernel_rfl) (by kernel_rfl) (fun _ _ _ h => h) (by rfl) ?_ (by assumption) ?_
   rotate_left
   ·(intro w hSw; (try dsimp only at hSw); go_simp; with_reducible rfl)
   simp only [Act.put, List.setIfInBounds_toArray, List.set_cons_zero, List.set_cons_succ]
   refine upto_run (v := ?_) 12 31 [13, 14, 16] rfl rfl (by kernel_rfl) (by kernel_rfl) (by kernel_rfl) (by kernel_rfl) (by kernel_rfl) (fun _ _ _ h => h) (by rfl) ?_ (by assumption) ?_
   rotate_left
   ·(intro w hSw; (try dsimp only at hSw); go_simp; with_reducible rfl)
   simp only [Act.put, List.setIfInBounds_toArray, List.set_cons_zero, List.set_cons_succ]
   refine upto_one 7 (by kernel_rfl) rfl (fun K hK => ?_)
   go_simp
   (refine (mul_any _ _ _ x p nx na (by exact NX) (by exact NA.out) (by omega) (by omega)).mono ?_; rintro e w2 ⟨r2, rfl, hr2, hb⟩; have b0 := (hb.cell (p := ⟨w.heap.size, 0, none⟩) lx).trans a0; have b1 := (hb.cell (p := ⟨w.heap.size, 1, none⟩) lx).trans a1; have b2 := (hb.cell (p := ⟨ab, aoff + k * 2, none⟩) la).trans a2; have b3 := (hb.cell (p := ⟨ab, aoff + k * 2 + 1, none⟩) la).trans a3; have b4 := (hb.cell (p := ⟨w.heap.size + 1, 0, none⟩) ly).trans a4; have b5 := (hb.cell (p := ⟨w.heap.size + 1, 1, none⟩) ly).trans a5; have b6 := (hb.cell (p := ⟨bb, boff + k * 2, none⟩) lb).trans a6; have b7 := (hb.cell (p := ⟨bb, boff + k * 2 + 1, none⟩) lb).trans a7; have HR2 := hide hr2; have HI2 := hide (HI.out.drew.later hb); have HTW2 := hide (HTW.out.drew.later hb); have NY2 := hide (NY.below (drewed hb) (Nat.le_refl _)); have NB2 := hide (NB.out.below (drewed hb) (Nat.le_refl _)); have hs2 := hb.size; clear hr2 hb)
   go_wp2_with fail
   refine hK.out _ _ (fun _ => by (try dsimp only); go_keep) ?_
   clear hK K
   try simp only [Act.put, List.setIfInBounds_toArray, List.set_cons_zero, List.set_cons_succ]
   refine upto_one 13 (by kernel_rfl) rfl (fun K hK => ?_)
   go_simp
   (refine (mul_any _ _ _ y q ny nb (by exact NY2.out) (by exact NB2.out) (by omega) (by omega)).mono ?_; rintro e w3 ⟨r3, rfl, hr3, hb⟩; have c0 := (hb.cell (p := ⟨w.heap.size, 0, none⟩) (Nat.lt_of_lt_of_le lx hs2)).trans b0; have c1 := (hb.cell (p := ⟨w.heap.size, 1, none⟩) (Nat.lt_of_lt_of_le lx hs2)).trans b1; have c2 := (hb.cell (p := ⟨ab, aoff + k * 2, none⟩) (Nat.lt_of_lt_of_le la hs2)).trans b2; have c3 := (hb.cell (p := ⟨ab, aoff + k * 2 + 1, none⟩) (Nat.lt_of_lt_of_le la hs2)).trans b3; have c4 := (hb.cell (p := ⟨w.heap.size + 1, 0, none⟩) (Nat.lt_of_lt_of_le ly hs2)).trans b4; have c5 := (hb.cell (p := ⟨w.heap.size + 1, 1, none⟩) (Nat.lt_of_lt_of_le ly hs2)).trans b5; have c6 := (hb.cell (p := ⟨bb, boff + k * 2, none⟩) (Nat.lt_of_lt_of_le lb hs2)).trans b6; have c7 := (hb.cell (p := ⟨bb, boff + k * 2 + 1, none⟩) (Nat.lt_of_lt_of_le lb hs2)).trans b7; have HR3 := hide hr3; have HR2' := hide (HR2.out.below hb (Nat.le_refl _)); have HI3 := hide (HI2.out.later hb); have HTW3 := hide (HTW2.out.later hb); have hs3 := Nat.le_trans hs2 hb.size; clear hr3 hb)
   go_wp2_with fail
   refine hK.out _ _ (fun _ => by (try dsimp only); go_keep) ?_
   clear hK K
   try simp only [Act.put, List.setIfInBounds_toArray, List.set_cons_zero, List.set_cons_succ]
   refine upto_one 14 (by kernel_rfl) rfl (fun K hK => ?_)
   go_simp
   (refine (add_any _ _ _ (x * p) (y * q) m (HR2'.out.mono (by omega)) (HR3.out.mono (by omega)) (by omega)).mono ?_; rintro e w4 ⟨r4, rfl, hr4, hb⟩; obtain ⟨⟨rn, ro, rl, rc⟩, rfl⟩ := hr4.nm; have d0 := (hb.cell (p := ⟨w.heap.size, 0, none⟩) (Nat.lt_of_lt_of_le lx hs3)).trans c0; have d1 := (hb.cell (p := ⟨w.heap.size, 1, none⟩) (Nat.lt_of_lt_of_le lx hs3)).trans c1; have d2 := (hb.cell (p := ⟨ab, aoff + k * 2, none⟩) (Nat.lt_of_lt_of_le la hs3)).trans c2; have d3 := (hb.cell (p := ⟨ab, aoff + k * 2 + 1, none⟩) (Nat.lt_of_lt_of_le la hs3)).trans c3; have d4 := (hb.cell (p := ⟨w.heap.size + 1, 0, none⟩) (Nat.lt_of_lt_of_le ly hs3)).trans c4; have d5 := (hb.cell (p := ⟨w.heap.size + 1, 1, none⟩) (Nat.lt_of_lt_of_le ly hs3)).trans c5; have d6 := (hb.cell (p := ⟨bb, boff + k * 2, none⟩) (Nat.lt_of_lt_of_le lb hs3)).trans c6; have d7 := (hb.cell (p := ⟨bb, boff + k * 2 + 1, none⟩) (Nat.lt_of_lt_of_le lb hs3)).trans c7; have HI4 := hide (HI3.out.later hb); have HTW4 := hide (HTW3.out.later hb); obtain ⟨neg0, o0, l0, c0', k0, k1, -⟩ := HI4.out.at k (by omega); have f0 := HI4.out.thaw (k * 2); have f1 := HI4.out.thaw (k * 2 + 1); have hP := HI4.out.lt; have HN := hide (HI4.out.set (k := k) (by omega) hr4); have HTN := hide (two_set HTW4.out k (.bool rn) (.slice ro rl rc)); rw [HFS.out] at HN; clear hb hr4 HI HI2 HI3 HI4 HFS)
   go_wp2_with fail
   refine hK.out _ _ (fun _ => by (try dsimp only); go_keep) ?_
   clear hK K
   try simp only [Act.put, List.setIfInBounds_toArray, List.set_cons_zero, List.set_cons_succ]
   refine upto_one 15 (by kernel_rfl) rfl (fun K hK => ?_)
   go_simp
   refine hK.out _ _ (fun _ => by (try dsimp only); go_keep) ?_
   clear hK K
   try simp only [Act.put, List.setIfInBounds_toArray, List.set_cons_zero, List.set_cons_succ]
   refine upto_one 16 (by kernel_rfl) rfl (fun K hK => ?_)
   go_simp
   refine hK.out _ _ (fun h => absurd h (by decide)) ?_
   clear hK K
   try simp only [Act.put, List.setIfInBounds_toArray, List.set_cons_zero, List.set_cons_succ]
   refine upto_done (by kernel_rfl) ?_
   clear a0 a1 a2 a3 a4 a5 a6 a7 b0 b1 b2 b3 b4 b5 b6 b7 c0 c1 c2 c3 c4 c5 c6 c7 d0 d1 d2 d3 d4 d5 d6 d7 k0 k1 f0 f1 NX NY NA NB
   go_wp2
   go_roundw
   case rel => exact ⟨k + 1, by omega, by go_num, HN.out, HTN⟩
   case measure => simp [intOf]; omega
  ·obtain rfl : k = us.length := by omega
   have HF : Hid (VecO w wr (w.heap.size + 2) ts (m + 1)) := by
    have := HI.out
    rw [← hlt] at this
    exact this.full
   have HQ := hide (HPOST.out wr HF.out)
   clear HI HF HPOST HTW
   go_wp2
   go_ret
   exact HQ.out

set_option maxRecDepth 100000 in
set_option maxHeartbeats 1600000 in
theorem upright_any (w : World) (v : Value) (zs : List Int) (n j : Nat) (hv : VecN w v zs n) (hj : j < zs.length) (h8 : zs.length ≤ 1000) (hn : n ≤ 200000) :
  Calls Try.prog 49 #[v, .int .i64 (j : Int)] w fun e w' => VecPost w (zs.map ((if zs.getD j 0 < 0 then -1 else 1) * ·)) (2 + n) e w' := by
 have HV := hide hv
 obtain ⟨b, off, cap, rfl⟩ := hv.form (by omega)
 obtain ⟨lb, bn, bo, bl, bc, c0, c1, nb⟩ := hv.at j hj
 have hsg := nb.sgn
 have HSC := hide (fun (w' : World) (z : Int) (vk : Value) (hk : NumL w' vk z 2) (hb : Below w.heap.size w w') => scaleV_any w' vk (.slice (some ⟨b, off, none⟩) zs.length cap) z zs 2 n hk (HV.out.below hb (Nat.le_refl _)) h8 (by decide) hn)
 clear nb hv
 cases bn
 ·rw [if_neg (by have := hsg.2 rfl; omega)]
  clear hsg
  go_enter Try.func49, Try.ntmps49
  go_wp2_with fail
  refine (of_any w 1 (by decide) (by decide)).mono ?_
  rintro e w1 ⟨r1, rfl, hr1, hb1⟩
  have HR := hide hr1; have HB1 := hide hb1
  clear hr1 hb1
  go_wp2_with fail
  refine (HSC.out w1 1 r1 HR.out HB1.out).mono ?_
  rintro e w2 ⟨P, rfl, hp⟩
  have HP := hide hp
  clear hp
  go_wp2
  go_ret
  exact ⟨P, by rw [List.length_map]; rfl, HP.out.vec, by have := HP.out.low; have := HB1.out.size; omega, HB1.out.trans (HP.out.below.mono HB1.out.size), HP.out.blk⟩
 ·rw [if_pos (hsg.1 rfl)]
  clear hsg
  go_enter Try.func49, Try.ntmps49
  go_wp2_with fail
  refine (of_any w (-1) (by decide) (by decide)).mono ?_
  rintro e w1 ⟨r1, rfl, hr1, hb1⟩
  have HR := hide hr1; have HB1 := hide hb1
  clear hr1 hb1
  go_wp2_with fail
  refine (HSC.out w1 (-1) r1 HR.out HB1.out).mono ?_
  rintro e w2 ⟨P, rfl, hp⟩
  have HP := hide hp
  clear hp
  go_wp2
  go_ret
  exact ⟨P, by rw [List.length_map]; rfl, HP.out.vec, by have := HP.out.low; have := HB1.out.size; omega, HB1.out.trans (HP.out.below.mono HB1.out.size), HP.out.blk⟩

end Go.Proofs.Ytcnllfnikajddaa
