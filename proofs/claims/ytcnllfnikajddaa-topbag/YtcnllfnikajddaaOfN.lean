/- Rows that are made one by one, in a list of one's own; rows twice as wide. -/
import Derived.Test.YtcnllfnikajddaaMats
import Derived.Test.YtcnllfnikajddaaMeetL
import Derived.Test.YtcnllfnikajddaaTl2
import Derived.Test.YtcnllfnikajddaaMix
import Derived.Test.YtcnllfnikajddaaHold
import Derived.Test.YtcnllfnikajddaaDivOne

namespace Go.Proofs.Ytcnllfnikajddaa
open Go.RowKit Limbs

structure RowsI (w W : World) (B : Nat) (m : Nat) (rows : List (List Int)) (k N : Nat) : Prop where
 low : Below w.heap.size w W
 high : w.heap.size ≤ B
 lt : B < W.heap.size
 blk : ∃ cs t, W.heap[B]? = some (.cells cs t)
 nil : ∀ i, k ≤ i → i < m → W.cell? ⟨B, i, none⟩ = some (.slice none 0 0)
 row : ∀ i, i < k → ∃ Q, W.cell? ⟨B, i, none⟩ = some (.slice (some ⟨Q, 0, none⟩) (rows.getD i []).length (rows.getD i []).length) ∧ VecN W (.slice (some ⟨Q, 0, none⟩) (rows.getD i []).length (rows.getD i []).length) (rows.getD i []) N ∧ Q < W.heap.size ∧ Q ≠ B

theorem one_made (m i : Nat) (hi : i < m) : (madeCells #[.slice none 0 0] m)[i]? = some (.slice none 0 0) := by
 simp [madeCells, hi, Nat.mod_one]

theorem RowsI.start {w W0 : World} (hb : Below w.heap.size w W0) (m : Nat) (rows : List (List Int)) (N : Nat) : RowsI w (W0.alloc (.cells (madeCells #[.slice none 0 0] m) 59)) W0.heap.size m rows 0 N := by
 refine ⟨hb.alloc hb.size _, hb.size, by simp, ⟨_, _, heap_alloc_new W0 _⟩, fun i _ hi => ?_, fun i hi => absurd hi (by omega)⟩
 rw [World.cell?_alloc_new]
 exact one_made m i hi

theorem RowsI.later {w W W' : World} {B m : Nat} {rows : List (List Int)} {k N : Nat} (h : RowsI w W B m rows k N) (hb : Below W.heap.size W W') : RowsI w W' B m rows k N where
 low := h.low.trans (hb.mono h.low.size)
 high := h.high
 lt := Nat.lt_of_lt_of_le h.lt hb.size
 blk := by obtain ⟨cs, t, e⟩ := h.blk; exact ⟨cs, t, (hb.block _ (heap_lt e)).trans e⟩
 nil := fun i h1 h2 => (hb.cell (p := ⟨B, i, none⟩) h.lt).trans (h.nil i h1 h2)
 row := fun i hi => by
  obtain ⟨Q, e, hv, hq, hne⟩ := h.row i hi
  exact ⟨Q, (hb.cell (p := ⟨B, i, none⟩) h.lt).trans e, hv.below hb (Nat.le_refl _), Nat.lt_of_lt_of_le hq hb.size, hne⟩

theorem RowsI.thaw {w W : World} {B m : Nat} {rows : List (List Int)} {k N : Nat} (h : RowsI w W B m rows k N) (i : Nat) : W.frozen? ⟨B, i, none⟩ = false := by
 obtain ⟨cs, t, e⟩ := h.blk
 simp [World.frozen?, e]

theorem RowsI.step {w W W' : World} {B m : Nat} {rows : List (List Int)} {k N : Nat} (h : RowsI w W B m rows k N) (hk : k < m) (hb : Below W.heap.size (W.setCell ⟨B, k, none⟩ (.slice (some ⟨W.heap.size, 0, none⟩) (rows.getD k []).length (rows.getD k []).length)) W')
  (hlt : W.heap.size < W'.heap.size) (hv : VecN W' (.slice (some ⟨W.heap.size, 0, none⟩) (rows.getD k []).length (rows.getD k []).length) (rows.getD k []) N) : RowsI w W' B m rows (k + 1) N := by
 have hnil := h.nil k (Nat.le_refl _) hk
 have hu : ∀ z, (Value.slice none 0 0) ≠ .int .u32 z := fun z e => by cases e
 have hlb := h.lt
 refine ⟨(h.low.setCell (p := ⟨B, k, none⟩) h.high _).trans (hb.mono h.low.size), h.high, by omega, ?_, fun i h1 h2 => ?_, fun i hi => ?_⟩
 ·obtain ⟨cs, t, e⟩ := h.blk
  exact ⟨_, t, (hb.block B hlb).trans (heap_setCell_same W B k _ _ _ e)⟩
 ·exact (hb.cell (p := ⟨B, i, none⟩) hlb).trans ((World.cell?_setCell_other (h := fun e => by simp at e <;> omega) ..).trans (h.nil i (by omega) h2))
 ·by_cases e : i = k
  ·subst e
   exact ⟨_, (hb.cell (p := ⟨B, i, none⟩) hlb).trans (World.cell?_setCell_same (h := hnil) ..), hv, hlt, by omega⟩
  ·obtain ⟨Q', e', hv', hq', hne'⟩ := h.row i (by omega)
   have hv2 := hv'.other (x := .slice (some ⟨W.heap.size, 0, none⟩) (rows.getD k []).length (rows.getD k []).length) hne' hnil hu
   exact ⟨Q', (hb.cell (p := ⟨B, i, none⟩) hlb).trans ((World.cell?_setCell_other (h := fun e => by simp at e <;> omega) ..).trans e'), hv2.below hb (by simp), by omega, hne'⟩

theorem RowsI.mat {w W : World} {B m : Nat} {rows : List (List Int)} {N : Nat} (h : RowsI w W B m rows m N) (hm : rows.length = m) : MatN W (.slice (some ⟨B, 0, none⟩) m m) rows N := by
 subst hm
 refine ⟨_, _, rfl, Nat.le_refl _, fun h0 => ⟨_, _, rfl, h.lt, fun i zs hi => ?_⟩⟩
 obtain ⟨hi', e⟩ := List.getElem?_eq_some_iff.1 hi
 obtain ⟨Q, e1, hv, -, -⟩ := h.row i hi'
 rw [getD_row hi', e] at e1 hv
 exact ⟨_, by rw [Nat.zero_add]; exact e1, hv⟩

def besL (n : Nat) (hs os : List (List Int)) : List (List Int) := List.zipWith (fun r o => r ++ (o ++ List.replicate (n - o.length) 0)) hs os

end Go.Proofs.Ytcnllfnikajddaa

/- Rows in the one form are bounded by what generates the same. -/
namespace Go.Proofs.Ytcnllfnikajddaa
open Go.RowKit Limbs

theorem FormL.short {n : Nat} {hs : List (List Int)} {p : Nat → Nat} (h : FormL n hs p) : hs.length ≤ n := by
 have hrm : ∀ k, k < hs.length → k ≤ p k := fun k => by
  induction k with
  | zero => exact fun _ => Nat.zero_le _
  | succ k ih => intro hk; have := ih (by omega); have := h.form.inc k (k + 1) (by omega) hk; omega
 by_cases h0 : hs.length = 0
 ·omega
 ·have := hrm (hs.length - 1) (by omega); have := h.form.lt (hs.length - 1) (by omega); omega

theorem MatN.tight {w : World} {v : Value} {zss : List (List Int)} {n m : Nat} (h : MatN w v zss n) (hz : ∀ zs ∈ zss, ∀ j, j < zs.length → ab (zs.getD j 0) < bp m) : MatN w v zss m := by
 obtain ⟨ao, cap, hv, h1, h2⟩ := h
 refine ⟨ao, cap, hv, h1, fun h0 => ?_⟩
 obtain ⟨b, off, e, hlt, hc⟩ := h2 h0
 refine ⟨b, off, e, hlt, fun i zs hi => ?_⟩
 obtain ⟨u, cu, hu⟩ := hc i zs hi
 exact ⟨u, cu, hu.tight (hz zs (List.mem_of_getElem? hi))⟩

end Go.Proofs.Ytcnllfnikajddaa

/- The reference: are two numbers, or vectors, the same? -/
namespace Go.Proofs.Ytcnllfnikajddaa
open Go.RowKit Limbs

theorem numS_same {neg neg' : Bool} {zs zs' : List Int} (h1 : LB zs) (h2 : LB zs') (n1 : Nrm zs) (n2 : Nrm zs') (e1 : zs.length = 0 → neg = false) (e2 : zs'.length = 0 → neg' = false)
  (h : (if neg = true then -lv zs else lv zs) = (if neg' = true then -lv zs' else lv zs')) : neg = neg' ∧ zs = zs' := by
 have p1 := lv_nonneg h1
 have p2 := lv_nonneg h2
 have q1 := lv_zero_iff h1 n1
 have q2 := lv_zero_iff h2 n2
 cases neg <;> cases neg' <;> simp at h
 ·exact ⟨rfl, lv_inj h1 h2 n1 n2 h⟩
 ·exfalso
  have := e2 (q2.1 (by omega)); simp at this
 ·exfalso
  have := e1 (q1.1 (by omega)); simp at this
 ·exact ⟨rfl, lv_inj h1 h2 n1 n2 (by omega)⟩

set_option maxRecDepth 100000 in
set_option maxHeartbeats 1600000 in
theorem sameInt_any (w : World) (va vb : Value) (x y : Int) (n m : Nat) (ha : NumL w va x n) (hb : NumL w vb y m) :
  Calls Try.prog 51 #[va, vb] w fun e w' => e = .returned (.bool (decide (x = y))) ∧ Below w.heap.size w w' := by
 obtain ⟨an, sa, zs, rfl, hla, nra, ea, hx, -⟩ := ha
 obtain ⟨bn, sb, zs', rfl, hlb, nrb, eb, hy, -⟩ := hb
 have HA := hide hla
 have HB := hide hlb
 obtain ⟨ao, acap, rfl, hacap, halen, halb, -⟩ := hla
 obtain ⟨bo, bcap, rfl, hbcap, hblen, hblb, -⟩ := hlb
 have HD : Hid (decide (x = y) = decide (an = bn ∧ zs = zs')) := by
  show _ = _
  by_cases h : x = y
  ·rw [decide_eq_true h, decide_eq_true (numS_same halb hblb nra nrb ea eb (hx.symm.trans (h.trans hy)))]
  ·rw [decide_eq_false h, decide_eq_false (fun h' => h (by rw [hx, hy, h'.1, h'.2]))]
 rw [HD.out]
 generalize hr : decide (an = bn ∧ zs = zs') = r
 have HR : Hid (r = decide (an = bn ∧ zs = zs')) := hr.symm
 clear hx hy ea eb nra nrb HD hr
 have hT := two w (.bool an) (.slice ao zs.length acap) (.bool bn) (.slice bo zs'.length bcap) 75 75
 have HT := hide hT
 obtain ⟨_, _, e, -, -, -, hac⟩ := HA.out.below hT.below (Nat.le_refl _)
 simp only [Value.slice.injEq, true_and] at e
 obtain ⟨rfl, rfl⟩ := e
 obtain ⟨_, _, e, -, -, -, hbc⟩ := HB.out.below hT.below (Nat.le_refl _)
 simp only [Value.slice.injEq, true_and] at e
 obtain ⟨rfl, rfl⟩ := e
 have HAC := hide hac
 have HBC := hide hbc
 clear hac hbc HA HB
 by_cases hn : an = bn
 ·subst hn
  by_cases hl : zs.length = zs'.length
  ·have HL := hide hl
   have hl1 : ((zs.length : Int) == (zs'.length : Int)) = true := by rw [beq_iff_eq]; omega
   have hl2 : ((zs.length : Int) != (zs'.length : Int)) = false := by rw [bne_eq_false_iff_eq]; omega
   clear hl
   go_enter Try.func51, Try.ntmps51
   go_wp2
   generalize (w.alloc (.cells #[.bool an, .slice ao zs.length acap] 75)).alloc (.cells #[.bool an, .slice bo zs'.length bcap] 75) = W at *
   clear hT
   obtain ⟨k0, k1, -, -⟩ := HT.out.fst
   obtain ⟨l0, l1, -, -⟩ := HT.out.res
   go_loopw [5] (fun i wr => ∃ k nq : Nat, k ≤ zs.length ∧ i = .int .i64 k ∧ wr = W.drewN nq ∧ Hid (zs.take k = zs'.take k)) (fun i _ => zs.length - (intOf i).toNat)
   case atStart => exact ⟨0, 0, Nat.zero_le _, rfl, by simp [World.drewN_zero], by show _ = _; simp⟩
   case round =>
    obtain ⟨k, nq, hk, rfl, rfl, HG⟩ := hrel
    by_cases hlt : k < zs.length
    ·obtain ⟨ab, aoff, rfl, -, hac⟩ := HAC.out (by omega)
     have hlt' : k < zs'.length := by have := HL.out; omega
     obtain ⟨bb, boff, rfl, -, hbc⟩ := HBC.out (by omega)
     have hca := hac k hlt
     have hcb := hbc k hlt'
     have HTS := hide (fun e => take_eq_succ hlt hlt' HG.out e)
     have HNE : Hid (zs.getD k 0 ≠ zs'.getD k 0 → r = false) := fun h => HR.out.trans (decide_eq_false fun e => h (by rw [e.2]))
     clear hac hbc HAC HBC
     generalize zs.getD k 0 = z at *
     generalize zs'.getD k 0 = y' at *
     by_cases hzy : z = y'
     ·have HG' := hide (HTS.out hzy)
      subst hzy
      clear HTS HNE HG
      go_wp2
      go_quiet (fail)
      go_wp2
      go_roundw
      case rel => exact ⟨k + 1, _, by omega, by go_num, rfl, HG'⟩
      case measure => simp [intOf]; omega
     ·obtain rfl : r = false := HNE.out hzy
      have hz1 : (z == y') = false := by rw [beq_eq_false_iff_ne]; exact hzy
      have hz2 : (z != y') = true := by rw [bne_iff_ne]; exact hzy
      clear HTS HNE HG
      go_wp2
      go_quiet (fail)
      go_wp2
      go_ret
      exact ⟨rfl, by first | exact below_drewN HT.out.below _ | exact below_drewN (below_drewN HT.out.below _) _⟩
    ·obtain rfl : r = true := by
      obtain rfl : k = zs.length := by omega
      have := HG.out
      rw [List.take_length, List.take_of_length_le (by have := HL.out; omega)] at this
      exact HR.out.trans (decide_eq_true (by first | exact ⟨rfl, this⟩ | exact ⟨trivial, this⟩))
     clear HG
     go_wp2
     go_ret
     exact ⟨rfl, below_drewN HT.out.below _⟩
  ·have hl1 : ((zs.length : Int) == (zs'.length : Int)) = false := by rw [beq_eq_false_iff_ne]; omega
   have hl2 : ((zs.length : Int) != (zs'.length : Int)) = true := by rw [bne_iff_ne]; omega
   obtain rfl : r = false := HR.out.trans (decide_eq_false fun e => hl (by rw [e.2]))
   clear hl HAC HBC
   go_enter Try.func51, Try.ntmps51
   go_wp2
   go_ret
   exact ⟨rfl, HT.out.below⟩
 ·have hn1 : (an == bn) = false := by rw [beq_eq_false_iff_ne]; exact hn
  have hn2 : (an != bn) = true := by rw [bne_iff_ne]; exact hn
  obtain rfl : r = false := HR.out.trans (decide_eq_false fun e => hn e.1)
  clear hn HAC HBC
  go_enter Try.func51, Try.ntmps51
  go_wp2
  go_ret
  exact ⟨rfl, HT.out.below⟩

set_option maxRecDepth 100000 in
set_option maxHeartbeats 1600000 in
theorem sameVec_any (w : World) (va vb : Value) (zs ys : List Int) (n m : Nat) (ha : VecN w va zs n) (hb : VecN w vb ys m) (hzl : zs.length ≤ 100000) (r : Bool) (hr : r = decide (zs = ys)) :
  Calls Try.prog 44 #[va, vb] w fun e w' => e = .returned (.bool r) ∧ Below w.heap.size w w' := by
 have HA := hide ha; have HB := hide hb
 have HR := hide hr
 clear hr
 by_cases hl : zs.length = ys.length
 ·obtain ⟨ao, acap, rfl, -, -⟩ := ha
  obtain ⟨bo, bcap, rfl, -, -⟩ := hb
  have hl1 : ((zs.length : Int) == (ys.length : Int)) = true := by rw [beq_iff_eq]; omega
  have hl2 : ((zs.length : Int) != (ys.length : Int)) = false := by rw [bne_eq_false_iff_eq]; omega
  have HLN := hide hl
  clear hl
  go_enter Try.func44, Try.ntmps44
  go_wp2
  go_loopw [5] (fun i wr => ∃ k : Nat, k ≤ zs.length ∧ i = .int .i64 k ∧ Hid (zs.take k = ys.take k) ∧ Below w.heap.size w wr) (fun i _ => zs.length - (intOf i).toNat)
  case atStart => exact ⟨0, Nat.zero_le _, rfl, by show _ = _; simp, Below.refl _ _⟩
  case round =>
   obtain ⟨k, hk, rfl, HG, hbe⟩ := hrel
   have HBE := hide hbe
   clear hbe
   by_cases hkl : k < zs.length
   ·have hky : k < ys.length := by have := HLN.out; omega
    obtain ⟨ab, aoff, _, e⟩ := HA.out.form (by omega)
    simp only [Value.slice.injEq, true_and] at e
    obtain ⟨rfl, rfl⟩ := e
    obtain ⟨bb, boff, _, e⟩ := HB.out.form (by omega)
    simp only [Value.slice.injEq, true_and] at e
    obtain ⟨rfl, rfl⟩ := e
    obtain ⟨la, an, ao, al, ac, a0, a1, na⟩ := (HA.out.below HBE.out (Nat.le_refl _)).at k hkl
    obtain ⟨lb, bn, bo, bl, bc, b0, b1, nb⟩ := (HB.out.below HBE.out (Nat.le_refl _)).at k hky
    have NA := hide na; have NB := hide nb
    have HTS := hide (fun e => take_eq_succ hkl hky HG.out e)
    have HNE : Hid (zs.getD k 0 ≠ ys.getD k 0 → r = false) := fun h => by
     rw [HR.out]; exact decide_eq_false fun e => h (by rw [e])
    clear na nb
    generalize zs.getD k 0 = z at *
    generalize ys.getD k 0 = y at *
    go_wp2_with fail
    go_region_held3 (fun w' => w'.cell? ⟨ab, aoff + k * 2, none⟩ = some (.bool an) ∧ w'.cell? ⟨ab, aoff + k * 2 + 1, none⟩ = some (.slice ao al ac) ∧ w'.cell? ⟨bb, boff + k * 2, none⟩ = some (.bool bn) ∧ w'.cell? ⟨bb, boff + k * 2 + 1, none⟩ = some (.slice bo bl bc)) (go_keep)
     (first
      | (go_at_call 51; refine (sameInt_any _ _ _ z y n m (by exact NA.out) (by exact NB.out)).mono ?_; rintro e w1 ⟨rfl, hb1⟩; have HB1 := hide (show Below w.heap.size w w1 from HBE.out.drew.trans (hb1.mono HBE.out.size)); have p0 := (hb1.cell (p := ⟨ab, aoff + k * 2, none⟩) la).trans a0; have p1 := (hb1.cell (p := ⟨ab, aoff + k * 2 + 1, none⟩) la).trans a1; have p2 := (hb1.cell (p := ⟨bb, boff + k * 2, none⟩) lb).trans b0; have p3 := (hb1.cell (p := ⟨bb, boff + k * 2 + 1, none⟩) lb).trans b1; clear hb1))
    by_cases hz : z = y
    ·have HG' := hide (HTS.out hz)
     have ez : decide (z = y) = true := decide_eq_true hz
     rw [ez]
     clear HTS HNE hz ez p0 p1 p2 p3 a0 a1 b0 b1
     go_wp2
     go_roundw
     case rel => exact ⟨k + 1, by omega, by go_num, HG', HB1.out⟩
     case measure => simp [intOf]; omega
    ·have ez : decide (z = y) = false := decide_eq_false hz
     rw [ez]
     obtain rfl : r = false := HNE.out hz
     clear HTS HNE hz ez p0 p1 p2 p3 a0 a1 b0 b1
     go_wp2
     go_ret
     exact ⟨rfl, HB1.out⟩
   ·obtain rfl : k = zs.length := by omega
    have HE : Hid (zs = ys) := by
     have := HG.out
     rw [List.take_length, List.take_of_length_le (by have := HLN.out; omega)] at this
     exact this
    obtain rfl : r = true := by rw [HR.out]; exact decide_eq_true HE.out
    clear HG HE
    go_wp2
    go_ret
    exact ⟨rfl, HBE.out⟩
 ·obtain ⟨ao, acap, rfl, -, -⟩ := ha
  obtain ⟨bo, bcap, rfl, -, -⟩ := hb
  have hl1 : ((zs.length : Int) == (ys.length : Int)) = false := by rw [beq_eq_false_iff_ne]; omega
  have hl2 : ((zs.length : Int) != (ys.length : Int)) = true := by rw [bne_iff_ne]; omega
  obtain rfl : r = false := by rw [HR.out]; exact decide_eq_false fun e => hl (by rw [e])
  go_enter Try.func44, Try.ntmps44
  go_wp2
  go_ret
  exact ⟨rfl, Below.refl _ _⟩

end Go.Proofs.Ytcnllfnikajddaa

/- The reference: are rows of vectors the same? -/
namespace Go.Proofs.Ytcnllfnikajddaa
open Go.RowKit Limbs

theorem take_eq_rows {zs ys : List (List Int)} {k : Nat} (h1 : k < zs.length) (h2 : k < ys.length) (h : zs.take k = ys.take k) (e : zs[k] = ys[k]) : zs.take (k + 1) = ys.take (k + 1) := by
 rw [List.take_succ_eq_append_getElem h1, List.take_succ_eq_append_getElem h2, h, e]

set_option maxRecDepth 100000 in
set_option maxHeartbeats 1600000 in
theorem sameMat_any (w : World) (va vb : Value) (zss yss : List (List Int)) (n m : Nat) (ha : MatN w va zss n) (hb : MatN w vb yss m) (hzl : zss.length ≤ 100000) (hz : ∀ zs ∈ zss, zs.length ≤ 100000) (r : Bool) (hr : r = decide (zss = yss)) :
  Calls Try.prog 36 #[va, vb] w fun e w' => e = .returned (.bool r) ∧ Below w.heap.size w w' := by
 have HA := hide ha; have HB := hide hb
 have HR := hide hr; have HZ := hide hz
 clear hr hz
 by_cases hl : zss.length = yss.length
 ·obtain ⟨ao, acap, rfl, -, -⟩ := ha
  obtain ⟨bo, bcap, rfl, -, -⟩ := hb
  have hl1 : ((zss.length : Int) == (yss.length : Int)) = true := by rw [beq_iff_eq]; omega
  have hl2 : ((zss.length : Int) != (yss.length : Int)) = false := by rw [bne_eq_false_iff_eq]; omega
  have HLN := hide hl
  clear hl
  go_enter Try.func36, Try.ntmps36
  go_wp2
  go_loopw [5] (fun i wr => ∃ k : Nat, k ≤ zss.length ∧ i = .int .i64 k ∧ Hid (zss.take k = yss.take k) ∧ Below w.heap.size w wr) (fun i _ => zss.length - (intOf i).toNat)
  case atStart => exact ⟨0, Nat.zero_le _, rfl, by show _ = _; simp, Below.refl _ _⟩
  case round =>
   obtain ⟨k, hk, rfl, HG, hbe⟩ := hrel
   have HBE := hide hbe
   clear hbe
   by_cases hkl : k < zss.length
   ·have hky : k < yss.length := by have := HLN.out; omega
    obtain ⟨ab, aoff, _, e, la, ua, a0, na⟩ := (HA.out.below HBE.out (Nat.le_refl _)).at k hkl
    simp only [Value.slice.injEq, true_and] at e
    obtain ⟨rfl, rfl⟩ := e
    obtain ⟨bb, boff, _, e, lb, ub, b0, nb⟩ := (HB.out.below HBE.out (Nat.le_refl _)).at k hky
    simp only [Value.slice.injEq, true_and] at e
    obtain ⟨rfl, rfl⟩ := e
    have NA := hide na; have NB := hide nb
    have HTS := hide (fun e => take_eq_rows hkl hky HG.out e)
    have hzk := HZ.out _ (List.getElem_mem hkl)
    have HNE : Hid (zss[k] ≠ yss[k] → r = false) := fun h => by
     rw [HR.out]; exact decide_eq_false fun e => h (by simp only [e])
    clear na nb
    generalize zss[k] = z at *
    generalize yss[k] = y at *
    obtain ⟨uo1, uc1, rfl, -, -⟩ := NA.out
    obtain ⟨uo2, uc2, rfl, -, -⟩ := NB.out
    go_wp2_with fail
    go_region_held3 (fun w' => w'.cell? ⟨ab, aoff + k, none⟩ = some (.slice uo1 z.length uc1) ∧ w'.cell? ⟨bb, boff + k, none⟩ = some (.slice uo2 y.length uc2)) (go_keep)
     (first
      | (go_at_call 44; refine (sameVec_any _ _ _ z y n m (by exact NA.out) (by exact NB.out) hzk _ rfl).mono ?_; rintro e w1 ⟨rfl, hb1⟩; have HB1 := hide (show Below w.heap.size w w1 from HBE.out.drew.trans (hb1.mono HBE.out.size)); have p0 := (hb1.cell (p := ⟨ab, aoff + k, none⟩) la).trans a0; have p1 := (hb1.cell (p := ⟨bb, boff + k, none⟩) lb).trans b0; clear hb1))
    by_cases hz : z = y
    ·have HG' := hide (HTS.out hz)
     have ez : decide (z = y) = true := decide_eq_true hz
     rw [ez]
     clear HTS HNE hz ez p0 p1 a0 b0
     go_wp2
     go_roundw
     case rel => exact ⟨k + 1, by omega, by go_num, HG', HB1.out⟩
     case measure => simp [intOf]; omega
    ·have ez : decide (z = y) = false := decide_eq_false hz
     rw [ez]
     obtain rfl : r = false := HNE.out hz
     clear HTS HNE hz ez p0 p1 a0 b0
     go_wp2
     go_ret
     exact ⟨rfl, HB1.out⟩
   ·obtain rfl : k = zss.length := by omega
    have HE : Hid (zss = yss) := by
     have := HG.out
     rw [List.take_length, List.take_of_length_le (by have := HLN.out; omega)] at this
     exact this
    obtain rfl : r = true := by rw [HR.out]; exact decide_eq_true HE.out
    clear HG HE
    go_wp2
    go_ret
    exact ⟨rfl, HBE.out⟩
 ·obtain ⟨ao, acap, rfl, -, -⟩ := ha
  obtain ⟨bo, bcap, rfl, -, -⟩ := hb
  have hl1 : ((zss.length : Int) == (yss.length : Int)) = false := by rw [beq_eq_false_iff_ne]; omega
  have hl2 : ((zss.length : Int) != (yss.length : Int)) = true := by rw [bne_iff_ne]; omega
  obtain rfl : r = false := by rw [HR.out]; exact decide_eq_false fun e => hl (by rw [e])
  go_enter Try.func36, Try.ntmps36
  go_wp2
  go_ret
  exact ⟨rfl, Below.refl _ _⟩

end Go.Proofs.Ytcnllfnikajddaa

/- A lattice's value; are two the same? -/
namespace Go.Proofs.Ytcnllfnikajddaa
open Go.RowKit Limbs

def LatN (w : World) (v : Value) (n : Nat) (hs : List (List Int)) (nv : Nat) : Prop := (∃ u, v = .agg #[.int .i64 (n : Int), u] ∧ MatN w u hs nv) ∧ ∃ p, FormL n hs p

theorem LatN.below {w w' : World} {v : Value} {n : Nat} {hs : List (List Int)} {nv : Nat} (h : LatN w v n hs nv) (hb : Below w.heap.size w w') : LatN w' v n hs nv := by
 obtain ⟨⟨u, e, hu⟩, hp⟩ := h
 exact ⟨⟨u, e, hu.below hb (Nat.le_refl _)⟩, hp⟩

theorem MatN.setBasis {W : World} {B : Nat} {u : Value} {hs : List (List Int)} {nv : Nat} {x : Int} (y z : Value) (h : MatN W u hs nv) (hpos : ∀ zs ∈ hs, 0 < zs.length) (c0 : W.cell? ⟨B, 0, none⟩ = some (.int .i64 x)) (c1 : W.cell? ⟨B, 1, none⟩ = some (.slice none 0 0)) :
  MatN ((W.setCell ⟨B, 0, none⟩ y).setCell ⟨B, 1, none⟩ z) u hs nv := by
 have k1 : (W.setCell ⟨B, 0, none⟩ y).cell? ⟨B, 1, none⟩ = some (.slice none 0 0) := Eq.trans (World.cell?_setCell_other (h := fun e => by simp at e) ..) c1
 have stay : ∀ (b o : Nat) (v : Value), W.cell? ⟨b, o, none⟩ = some v → ¬ (b = B ∧ o = 0) → ¬ (b = B ∧ o = 1) → ((W.setCell ⟨B, 0, none⟩ y).setCell ⟨B, 1, none⟩ z).cell? ⟨b, o, none⟩ = some v := fun b o v hv h0 h1 =>
  Eq.trans (World.cell?_setCell_other (h := fun e => h1 (by simp only [Addr.mk.injEq, and_true] at e; exact ⟨e.1.symm, e.2.symm⟩)) ..) (Eq.trans (World.cell?_setCell_other (h := fun e => h0 (by simp only [Addr.mk.injEq, and_true] at e; exact ⟨e.1.symm, e.2.symm⟩)) ..) hv)
 have hsz : ((W.setCell ⟨B, 0, none⟩ y).setCell ⟨B, 1, none⟩ z).heap.size = W.heap.size := by simp
 obtain ⟨ao, cap, hv, h1, h2⟩ := h
 refine ⟨ao, cap, hv, h1, fun hh => ?_⟩
 obtain ⟨b, off, e, hlt, hc⟩ := h2 hh
 refine ⟨b, off, e, by rw [hsz]; exact hlt, fun i zs hi => ?_⟩
 obtain ⟨v, cv, hv⟩ := hc i zs hi
 have hzs := hpos zs (List.mem_of_getElem? hi)
 obtain ⟨vb, voff, vcap, rfl⟩ := hv.form hzs
 refine ⟨_, stay _ _ _ cv (fun ⟨e1, e2⟩ => ?_) (fun ⟨e1, e2⟩ => ?_), ?_⟩
 ·rw [e1, e2, c0] at cv; cases cv
 ·rw [e1, e2, c1] at cv; cases cv
 ·have hat := fun j (hj : j < zs.length) => hv.at j hj
  obtain ⟨_, _, ev, g1, -⟩ := hv
  refine ⟨_, _, ev, g1, fun _ => ⟨vb, voff, ?_, by rw [hsz]; exact (hat 0 hzs).1, fun j hj => ?_⟩⟩
  ·simp only [Value.slice.injEq, true_and] at ev
   exact ev.1.symm
  ·obtain ⟨-, neg, o, l, c, d0, d1, hn⟩ := hat j hj
   refine ⟨neg, o, l, c, stay _ _ _ d0 (fun ⟨e1, e2⟩ => ?_) (fun ⟨e1, e2⟩ => ?_), stay _ _ _ d1 (fun ⟨e1, e2⟩ => ?_) (fun ⟨e1, e2⟩ => ?_), (hn.setCell c0 (by simp)).setCell k1 (by simp)⟩
   ·rw [e1, e2, c0] at d0; cases d0
   ·rw [e1, e2, c1] at d0; cases d0
   ·rw [e1, e2, c0] at d1; cases d1
   ·have e3 : voff + j * 2 = 0 := by omega
    rw [e1, e3, c0] at d0; cases d0

theorem two_boxes (w : World) (a0 a1 b0 b1 : Value) (t t' : TypeId) : Box ((w.alloc (.cells #[a0, a1] t)).alloc (.cells #[b0, b1] t')) w.heap.size a0 a1 ∧ Box ((w.alloc (.cells #[a0, a1] t)).alloc (.cells #[b0, b1] t')) (w.heap.size + 1) b0 b1 ∧ Below w.heap.size w ((w.alloc (.cells #[a0, a1] t)).alloc (.cells #[b0, b1] t')) ∧ w.heap.size + 1 < ((w.alloc (.cells #[a0, a1] t)).alloc (.cells #[b0, b1] t')).heap.size :=
 ⟨(box_new w a0 a1 t _ rfl).later ((Below.refl (w.heap.size + 1) _).alloc (by simp) _) (by omega), box_new _ b0 b1 t' _ (by simp), ((Below.refl w.heap.size w).alloc (Nat.le_refl _) _).alloc (by simp) _, by simp⟩

set_option maxRecDepth 100000 in
set_option maxHeartbeats 1600000 in
theorem sameB_any (w : World) (va vb : Value) (n nv mv : Nat) (hs ks : List (List Int)) (ha : LatN w va n hs nv) (hb : LatN w vb n ks mv) (hn : n ≤ 1000) :
  Calls Try.prog 21 #[va, vb] w fun e w' => e = .returned (.bool (decide (hs = ks))) ∧ Below w.heap.size w w' := by
 obtain ⟨⟨u, rfl, hu⟩, p, hF⟩ := ha
 obtain ⟨⟨v, rfl, hv⟩, q, hG⟩ := hb
 have HU := hide hu; have HV := hide hv
 have h1 := hF.short
 have HLE : Hid (∀ zs ∈ hs, zs.length ≤ 100000) := fun zs hz => by have := hF.len zs hz; omega
 obtain ⟨uo, ucap, rfl, -, -⟩ := hu
 obtain ⟨vo, vcap, rfl, -, -⟩ := hv
 clear hF hG
 have HX := hide (two_boxes w (.int .i64 (n : Int)) (.slice uo hs.length ucap) (.int .i64 (n : Int)) (.slice vo ks.length vcap) 43 43)
 obtain ⟨⟨c0, c1, z0, z1⟩, ⟨d0, d1, y0, y1⟩, -, -⟩ := HX.out
 go_enter Try.func21, Try.ntmps21
 go_wp2_with fail
 clear c0 c1 z0 z1 d0 d1 y0 y1
 generalize ((w.alloc (.cells #[.int .i64 (n : Int), .slice uo hs.length ucap] 43)).alloc (.cells #[.int .i64 (n : Int), .slice vo ks.length vcap] 43)) = W0 at *
 refine (sameMat_any W0 _ _ hs ks nv mv (by exact HU.out.below HX.out.2.2.1 (Nat.le_refl _)) (by exact HV.out.below HX.out.2.2.1 (Nat.le_refl _)) (by omega) HLE.out _ rfl).mono ?_
 rintro e w1 ⟨rfl, hb1⟩
 have HB1 := hide (HX.out.2.2.1.trans (hb1.mono HX.out.2.2.1.size))
 obtain ⟨c0, c1, z0, z1⟩ := HX.out.1.later hb1 (by have := HX.out.2.2.2; omega)
 obtain ⟨d0, d1, y0, y1⟩ := HX.out.2.1.later hb1 HX.out.2.2.2
 generalize hr : decide (hs = ks) = r at *
 clear hb1 HX HU HV
 have HRR := hide hr
 clear hr
 go_wp2
 go_ret
 exact ⟨by rw [HRR.out]; rfl, HB1.out⟩

set_option maxRecDepth 100000 in
set_option maxHeartbeats 1600000 in
theorem alikeB_any (w : World) (va vb : Value) (n nv mv : Nat) (hs ks : List (List Int)) (ha : LatN w va n hs nv) (hb : LatN w vb n ks mv) (hn : n ≤ 1000) :
  Calls Try.prog 9 #[va, vb] w fun e w' => e = .returned (.bool (decide (hs = ks))) ∧ Below w.heap.size w w' := by
 have HA := hide ha; have HB := hide hb
 obtain ⟨⟨u, rfl, ⟨uo, ucap, rfl, -, -⟩⟩, -⟩ := ha
 obtain ⟨⟨v, rfl, ⟨vo, vcap, rfl, -, -⟩⟩, -⟩ := hb
 have HX := hide (two_boxes w (.int .i64 (n : Int)) (.slice uo hs.length ucap) (.int .i64 (n : Int)) (.slice vo ks.length vcap) 43 43)
 obtain ⟨⟨c0, c1, z0, z1⟩, ⟨d0, d1, y0, y1⟩, -, -⟩ := HX.out
 go_enter Try.func9, Try.ntmps9
 go_wp2_with fail
 clear c0 c1 z0 z1 d0 d1 y0 y1
 generalize ((w.alloc (.cells #[.int .i64 (n : Int), .slice uo hs.length ucap] 43)).alloc (.cells #[.int .i64 (n : Int), .slice vo ks.length vcap] 43)) = W0 at *
 refine (sameB_any W0 _ _ n nv mv hs ks (by exact HA.out.below HX.out.2.2.1) (by exact HB.out.below HX.out.2.2.1) hn).mono ?_
 rintro e w1 ⟨rfl, hb1⟩
 have HB1 := hide (HX.out.2.2.1.trans (hb1.mono HX.out.2.2.1.size))
 clear hb1 HX
 go_wp2
 go_ret
 exact ⟨rfl, HB1.out⟩

end Go.Proofs.Ytcnllfnikajddaa

/- Numbers and vectors whose limbs are new. -/
namespace Go.Proofs.Ytcnllfnikajddaa
open Go.RowKit Limbs

def SignPost (w : World) (z : Int) (n : Nat) (ao : Option Addr) (cap : Nat) (e : Ending) (w' : World) : Prop := NumPost w z n e w' ∧ ∃ b l, e = .returned (.agg #[.bool b, .slice ao l cap])

set_option maxHeartbeats 400000 in
theorem signed_new (w : World) (neg : Bool) (ao : Option Addr) (cap : Nat) (zs : List Int) (n : Nat) (h : Lim w (.slice ao zs.length cap) zs) (hn : zs.length ≤ n) :
  Calls Try.prog 40 #[.bool neg, .slice ao zs.length cap] w fun e w' => SignPost w (if neg = true then - lv zs else lv zs) n ao cap e w' := by
 have HL : Hid (Lim w (.slice ao zs.length cap) zs) := h
 obtain ⟨ao', cap', hv, hcap, hlen, hlb, hc⟩ := h
 simp only [Value.slice.injEq, true_and] at hv
 obtain ⟨rfl, rfl⟩ := hv
 clear hc
 go_enter Try.func40, Try.ntmps40
 go_wp2_with fail
 refine (trim_any _ _ _ zs (HL.out.below ((Below.refl _ _).alloc (Nat.le_refl _) _) (Nat.le_refl _))).mono ?_
 rintro e w' ⟨m, hm, rfl, hv, hnr, rfl⟩
 have HV : Hid (lv (zs.take m) = lv zs) := hv
 clear hv
 have hl : (zs.take m).length = m := by rw [List.length_take]; omega
 have HL2 := HL.out.take m hm
 cases neg
 ·have HF : Hid (NumPost w (lv zs) n (.returned (.agg #[.bool false, .slice ao m cap])) (w.alloc (Obj.cells #[Value.bool false, .slice ao m cap] 75))) :=
   ⟨_, rfl, ⟨false, _, zs.take m, rfl, HL2.below ((Below.refl _ _).alloc (Nat.le_refl _) _) (Nat.le_refl _), hnr, fun _ => rfl, HV.out.symm, by omega⟩, (Below.refl _ _).alloc (Nat.le_refl _) _⟩
  go_wp2
  exact bodyPost_ret (v := .agg #[.bool false, .slice ao m cap]) (by simp [results, Try.results40, go_sem]) rfl ⟨HF.out, _, _, rfl⟩
 ·by_cases h0 : m = 0
  ·subst h0
   have HF : Hid (NumPost w (-lv zs) n (.returned (.agg #[.bool false, .slice ao 0 cap])) (w.alloc (Obj.cells #[Value.bool false, .slice ao 0 cap] 75))) :=
    ⟨_, rfl, ⟨false, _, zs.take 0, rfl, HL2.below ((Below.refl _ _).alloc (Nat.le_refl _) _) (Nat.le_refl _), hnr, fun _ => rfl, by have := HV.out; simp [lv] at this ⊢; omega, by omega⟩, (Below.refl _ _).alloc (Nat.le_refl _) _⟩
   go_wp2
   exact bodyPost_ret (v := .agg #[.bool false, .slice ao 0 cap]) (by simp [results, Try.results40, go_sem]) rfl ⟨HF.out, _, _, rfl⟩
  ·have HF : Hid (NumPost w (-lv zs) n (.returned (.agg #[.bool true, .slice ao m cap])) (w.alloc (Obj.cells #[Value.bool true, .slice ao m cap] 75))) :=
    ⟨_, rfl, ⟨true, _, zs.take m, rfl, HL2.below ((Below.refl _ _).alloc (Nat.le_refl _) _) (Nat.le_refl _), hnr, fun h => absurd h (by omega), by rw [if_pos rfl, HV.out], by omega⟩, (Below.refl _ _).alloc (Nat.le_refl _) _⟩
   have hd : decide (0 < m) = true := by simp; omega
   go_wp2
   exact bodyPost_ret (v := .agg #[.bool true, .slice ao m cap]) (by simp [results, Try.results40, go_sem]) rfl ⟨HF.out, _, _, rfl⟩

set_option maxHeartbeats 800000 in
theorem of_new (w : World) (n : Int) (h0 : -9223372036854775808 ≤ n) (h1 : n ≤ 9223372036854775807) :
  Calls Try.prog 33 #[.int .i64 n] w fun e w' => IntPost w n 2 e w' := by
 by_cases hn : n < 0
 ·have hw : IntKind.u64.wrap (-IntKind.u64.wrap n) = -n := by rw [IntKind.wrap_u64, IntKind.wrap_u64]; omega
  have hw2 : -n / 4294967296 % 4294967296 = -n / 4294967296 := by omega
  have HN := hide (lv_two (-n))
  go_enter Try.func33, Try.ntmps33
  go_wp2_with fail
  refine (signed_new _ _ _ _ [-n % 4294967296, -n / 4294967296] 2 (lim_two _ _ _ _ (by omega) (by omega) _ (by simp)) (Nat.le_refl _)).mono ?_
  rintro e w2 ⟨⟨r, rfl, hr, hb2⟩, sb, sl, es⟩
  simp only [Ending.returned.injEq] at es
  subst es
  obtain ⟨c0, c1, f0, f1⟩ := Box.later (B := w.heap.size) ((box_new w _ _ _ _ rfl).later ((Below.refl _ _).alloc (by simp) _ : Below (w.heap.size + 1) _ _) (by omega)) hb2 (by simp; omega)
  rw [HN.out, if_pos rfl, Int.neg_neg] at hr
  have HF := hide (fun rn rs (h : NumL w2 (.agg #[.bool rn, rs]) n 2) => boxed (w := w) h c0 c1 (by simp) (by simp) ((((Below.refl _ _).alloc (Nat.le_refl _) _).alloc (by simp) _).trans (hb2.mono (by simp; omega))) (Nat.le_refl _))
  have HR := hide hr
  clear hb2 hr
  go_wp2
  exact bodyPost_ret (v := _) (by simp [results, Try.results33, go_sem, c0, c1]) rfl ⟨HF.out _ _ HR.out, fun neg s e a l c h => by simp only [Ending.returned.injEq, Value.agg.injEq, Array.mk.injEq, List.cons.injEq, and_true] at e; rw [← e.2] at h; simp only [Value.slice.injEq, Option.some.injEq] at h; rw [← h.1]; simp⟩
 ·have HN := hide (lv_two n)
  go_enter Try.func33, Try.ntmps33
  go_wp2_with fail
  refine (signed_new _ _ _ _ [n % 4294967296, n / 4294967296] 2 (lim_two _ _ _ _ (by omega) (by omega) _ (by simp)) (Nat.le_refl _)).mono ?_
  rintro e w2 ⟨⟨r, rfl, hr, hb2⟩, sb, sl, es⟩
  simp only [Ending.returned.injEq] at es
  subst es
  obtain ⟨c0, c1, f0, f1⟩ := Box.later (B := w.heap.size) ((box_new w _ _ _ _ rfl).later ((Below.refl _ _).alloc (by simp) _ : Below (w.heap.size + 1) _ _) (by omega)) hb2 (by simp; omega)
  rw [HN.out, if_neg (by decide)] at hr
  have HF := hide (fun rn rs (h : NumL w2 (.agg #[.bool rn, rs]) n 2) => boxed (w := w) h c0 c1 (by simp) (by simp) ((((Below.refl _ _).alloc (Nat.le_refl _) _).alloc (by simp) _).trans (hb2.mono (by simp; omega))) (Nat.le_refl _))
  have HR := hide hr
  clear hb2 hr
  go_wp2
  exact bodyPost_ret (v := _) (by simp [results, Try.results33, go_sem, c0, c1]) rfl ⟨HF.out _ _ HR.out, fun neg s e a l c h => by simp only [Ending.returned.injEq, Value.agg.injEq, Array.mk.injEq, List.cons.injEq, and_true] at e; rw [← e.2] at h; simp only [Value.slice.injEq, Option.some.injEq] at h; rw [← h.1]; simp⟩

def NewV (w W : World) (P k : Nat) : Prop := ∀ i, i < k → ∀ o l c, W.cell? ⟨P, i * 2 + 1, none⟩ = some (.slice o l c) → NewSl w (.slice o l c)

theorem NewV.set {w W W2 : World} {P k n : Nat} {zs : List Int} (h : NewV w W P k) (hv : VecO w W P zs n) (hk : k < zs.length) (hb : Below W.heap.size W W2) {o : Option Addr} {l c : Nat} (hn : NewSl W (.slice o l c)) (rn : Bool) :
  NewV w ((W2.setCell ⟨P, k * 2, none⟩ (.bool rn)).setCell ⟨P, k * 2 + 1, none⟩ (.slice o l c)) P (k + 1) := fun i hi o' l' c' e => by
 by_cases e1 : i = k
 ·subst e1
  obtain ⟨neg0, o0, l0, c0, k0, k1, -⟩ := (hv.later hb).at i hk
  have k1' : (W2.setCell ⟨P, i * 2, none⟩ (.bool rn)).cell? ⟨P, i * 2 + 1, none⟩ = some (.slice o0 l0 c0) := (World.cell?_setCell_other (h := fun e => by simp at e) ..).trans k1
  rw [World.cell?_setCell_same (h := k1')] at e
  simp only [Option.some.injEq] at e
  rw [← e]
  intro a l2 c2 h2
  exact Nat.le_trans hv.below.size (hn a l2 c2 h2)
 ·have e2 : ((W2.setCell ⟨P, k * 2, none⟩ (.bool rn)).setCell ⟨P, k * 2 + 1, none⟩ (.slice o l c)).cell? ⟨P, i * 2 + 1, none⟩ = W2.cell? ⟨P, i * 2 + 1, none⟩ :=
   (World.cell?_setCell_other (h := fun e => by simp at e <;> omega) ..).trans (World.cell?_setCell_other (h := fun e => by simp at e <;> omega) ..)
  rw [e2, hb.cell (p := ⟨P, i * 2 + 1, none⟩) hv.lt] at e
  exact h i (by omega) o' l' c' e

set_option maxRecDepth 100000 in
set_option maxHeartbeats 1600000 in
theorem ofV_new (w : World) (v : Value) (ks : List Int) (hv : RowS w v ks) (h8 : ks.length ≤ 1000) :
  Calls Try.prog 19 #[v] w fun e w' => ∃ P, e = .returned (.slice (some ⟨P, 0, none⟩) ks.length ks.length) ∧ VecO w w' P ks 2 ∧ NewV w w' P ks.length := by
 have HV := hide hv
 obtain ⟨ao, cap, rfl, -, hk64, -⟩ := hv
 have HK := hide hk64
 have hmk := run_mkV ks.length (by omega)
 have HI := hide (VecO.made w w (Below.refl _ _) ks.length 2)
 clear hk64
 go_enter Try.func19, Try.ntmps19
 go_wp2
 clear hmk
 go_loopw [10] (fun i wr => ∃ k : Nat, k ≤ ks.length ∧ i = .int .i64 k ∧ VecO w wr w.heap.size (ks.take k ++ List.replicate (ks.length - k) 0) 2 ∧ Hid (NewV w wr w.heap.size k)) (fun i _ => ks.length - (intOf i).toNat)
 case atStart => exact ⟨0, Nat.zero_le _, rfl, HI.out, hide fun i hi => absurd hi (Nat.not_lt_zero i)⟩
 case round =>
  clear HI
  obtain ⟨k, hk, rfl, hinv, HNV⟩ := hrel
  have HI := hide hinv
  clear hinv
  by_cases hkl : k < ks.length
  ·obtain ⟨_, _, e, -, -, hc⟩ := HV.out.below HI.out.below (Nat.le_refl _)
   simp only [Value.slice.injEq, true_and] at e
   obtain ⟨rfl, rfl⟩ := e
   obtain ⟨b, off, rfl, -, hc⟩ := hc (by omega)
   have c0 := hc k hkl
   have HFS := hide (fill_step ks k hkl)
   have hfl := fill_len ks k hk
   have hkl' : k < (ks.take k ++ List.replicate (ks.length - k) 0).length := by omega
   have H64 := hide (HK.out k)
   clear hc
   generalize ks.getD k 0 = z at *
   go_wp2_with fail
   refine (of_new wr z H64.out.1 H64.out.2).mono ?_
   rintro e w2 ⟨⟨r, rfl, hr, hb⟩, hnew⟩
   obtain ⟨⟨rn, ro, rl, rc⟩, rfl⟩ := hr.nm
   have HN2 := hide (HNV.out.set HI.out hkl' hb (hnew _ _ rfl) rn)
   have HI2 := hide (HI.out.later hb)
   obtain ⟨neg0, o0, l0, c0', k0, k1, -⟩ := HI2.out.at k (by omega)
   have f0 := HI2.out.thaw (k * 2)
   have f1 := HI2.out.thaw (k * 2 + 1)
   have hP := HI2.out.lt
   have HN := hide (HI2.out.set (k := k) (by omega) hr)
   rw [HFS.out] at HN
   clear hb hr hnew HNV HI HI2 HFS H64 c0
   go_wp2
   go_roundw
   case rel => exact ⟨k + 1, by omega, by go_num, HN.out, HN2⟩
   case measure => simp [intOf]; omega
  ·obtain rfl : k = ks.length := by omega
   have HF := hide HI.out.full
   clear HI
   go_wp2
   go_ret
   exact ⟨_, rfl, HF.out, HNV.out⟩

end Go.Proofs.Ytcnllfnikajddaa
