/- Texts put together with one byte between, and cut at it again. No Go in it. -/
import Derived.Test.YtofegldopgkikaaGreatDoorTrim
import Derived.Lib.Split
import Derived.Lib.Join
import Derived.Test.YtofegldopgkikaaGreatDoorDivOne
import Derived.Test.YtofegldopgkikaaGreatDoorShelfJ
import Derived.Test.YtofegldopgkikaaGreatDoorMats
import Derived.Test.YtofegldopgkikaaGreatDoorHermR
import Derived.Test.YtofegldopgkikaaGreatDoorMatRaw
import Derived.Test.YtofegldopgkikaaGreatDoorRefS
import Derived.Test.YtofegldopgkikaaGreatDoorMatLt
import Derived.Test.YtofegldopgkikaaGreatDoorText

namespace Go.Proofs.YtofegldopgkikaaGreatDoor
open Go

end Go.Proofs.YtofegldopgkikaaGreatDoor

/- A vector's text. -/
namespace Go.Proofs.YtofegldopgkikaaGreatDoor
open Go.RowKit Limbs

theorem Tryz.infoStr : (Tryz.prog.info? 9).map (fun i => (i.zero, i.size, i.bytes)) = some (some (.string ByteArray.empty), 1, 16) := by kernel_rfl

theorem run_mkS (m : Nat) (hm : m ≤ 1000) (W : World) : (Instr.makeSlice 61 (.int .i64 (m : Int)) (.int .i64 (m : Int))).run Tryz.prog W = .ok (.slice (some ⟨W.heap.size, 0, none⟩) m m) (W.alloc (.cells (Lib.cellsOf [] m) 9)) := by
  obtain ⟨i0, hi, hz0, hz1, hz2⟩ := info_parts Tryz.infoStr
  have h := run_make (P := Tryz.prog) W 61 9 i0 (.string ByteArray.empty) (by kernel_rfl) hi hz0 .i64 .i64 m m (by omega) (by omega) (by rw [hz2]; omega) (by omega)
  rw [hz1, Int.toNat_natCast, Nat.mul_one] at h
  rw [Lib.cellsOf_nil]
  exact h

/-- the text of a vector -/
def vtxt (zs : List Int) : List UInt8 := 40 :: (Lib.join (zs.map txt) [32] ++ [41])

def btxt (z : Int) : ByteArray := ⟨(txt z).toArray⟩

theorem btxt_data (zs : List Int) : (zs.map btxt).map (·.data.toList) = zs.map txt := by
  rw [List.map_map]
  apply List.map_congr_left
  intro z _
  simp [btxt]

/-- At the loop's head: so many texts stand in the row. -/
def TxInv (w wr : World) (P : Nat) (zs : List Int) (k : Nat) : Prop :=
  wr.heap[P]? = some (.cells (Lib.cellsOf ((zs.take k).map btxt) zs.length) 9) ∧ Below w.heap.size w wr

theorem TxInv.store {w wr : World} {P : Nat} {zs : List Int} {k : Nat} (h : TxInv w wr P zs k) (hP : w.heap.size ≤ P) (hk : k < zs.length) : TxInv w (wr.setCell ⟨P, k, none⟩ (.string (btxt (zs.getD k 0)))) P zs (k + 1) := by
  obtain ⟨h1, h2⟩ := h
  have hl : ((zs.take k).map btxt).length = k := by rw [List.length_map, List.length_take]; omega
  have hs := heap_setCell_same wr P k _ _ (.string (btxt (zs.getD k 0))) h1
  refine ⟨?_, h2.setCell (by exact hP) _⟩
  have e : (Lib.cellsOf ((zs.take k).map btxt) zs.length).setIfInBounds k (.string (btxt (zs.getD k 0))) = Lib.cellsOf ((zs.take (k + 1)).map btxt) zs.length := by
    have := Lib.cellsOf_set (done := (zs.take k).map btxt) (N := zs.length) (by omega) (btxt (zs.getD k 0))
    rw [hl] at this
    rw [this, List.take_succ_eq_append_getElem hk, List.map_append]
    simp [List.getD_eq_getElem?_getD, hk]
  rw [← e]
  exact hs

theorem TxInv.full {w wr : World} {P : Nat} {zs : List Int} (h : TxInv w wr P zs zs.length) : ∀ (j : Nat) x, (zs.map btxt)[j]? = some x → wr.cell? ⟨P, 0 + j, none⟩ = some (.string x) := fun j x hx => by
  have h1 := h.1
  rw [List.take_length] at h1
  have := World.news_of_block h1 j (.string x) (by
    unfold Lib.cellsOf
    rw [List.toList_toArray, List.getElem?_append_left (by rw [List.length_map]; exact (List.getElem?_eq_some_iff.1 hx).1), List.getElem?_map, hx]
    rfl)
  have e : (⟨P, 0, none⟩ : Addr).add j = ⟨P, 0 + j, none⟩ := by unfold Addr.add; split <;> simp_all
  rwa [e] at this

theorem joined (l : List UInt8) : (⟨#[40]⟩ : ByteArray) ++ ⟨l.toArray⟩ ++ ⟨#[41]⟩ = ⟨(40 :: (l ++ [41])).toArray⟩ := by
  apply ByteArray.ext
  simp

set_option maxRecDepth 100000 in
set_option maxHeartbeats 1600000 in
theorem vtext_any (w : World) (v : Value) (zs : List Int) (n : Nat) (ht : Tab w) (hv : VecN w v zs n) (hn : n ≤ 900000) (h0 : 0 < zs.length) (h8 : zs.length ≤ 8) (hlen : (Lib.join (zs.map txt) [32]).length ≤ 100000) :
    Calls Tryz.prog 15 #[v] w fun e w' => e = .returned (.string ⟨(vtxt zs).toArray⟩) ∧ Below w.heap.size w w' := by
  have HV := hide hv; have HT := hide ht
  obtain ⟨vb, voff, vcap, rfl⟩ := hv.form h0
  clear hv ht
  have hmk := run_mkS zs.length (by omega)
  have HI : Hid (TxInv w (w.alloc (.cells (Lib.cellsOf [] zs.length) 9)) w.heap.size zs 0) := ⟨heap_alloc_new w _, (Below.refl _ _).alloc (Nat.le_refl _) _⟩
  go_enter Tryz.func15, Tryz.ntmps15
  go_wp2
  clear hmk
  go_loopw [10] (fun i wr => ∃ k : Nat, k ≤ zs.length ∧ i = .int .i64 k ∧ TxInv w wr w.heap.size zs k) (fun i _ => zs.length - (intOf i).toNat)
  case atStart => exact ⟨0, Nat.zero_le _, rfl, HI.out⟩
  case round =>
    clear HI
    obtain ⟨k, hk, rfl, hinv⟩ := hrel
    have HI := hide hinv
    clear hinv
    by_cases hkl : k < zs.length
    · obtain ⟨la, an, ao, al, ac, a0, a1, na⟩ := (HV.out.below HI.out.2 (Nat.le_refl _)).at k hkl
      have NA := hide na
      have HST := hide (fun (W : World) (h : TxInv w W w.heap.size zs k) => h.store (Nat.le_refl _) hkl)
      clear na
      have HBT := hide (show btxt (zs.getD k 0) = ⟨(txt (zs.getD k 0)).toArray⟩ from rfl)
      generalize zs.getD k 0 = z at *
      go_wp2_with fail
      refine (text_all wr _ z n (HT.out.below HI.out.2) NA.out hn).mono ?_
      rintro e w1 ⟨rfl, hb⟩
      have HI1 := hide (show TxInv w w1 w.heap.size zs k from ⟨(hb.block _ (heap_lt HI.out.1)).trans HI.out.1, HI.out.2.trans (hb.mono HI.out.2.size)⟩)
      have hll : ((zs.take k).map btxt).length = k := by rw [List.length_map, List.length_take]; omega
      have hcell : w1.cell? ⟨w.heap.size, k, none⟩ = some (.string ByteArray.empty) := by
        have h := Lib.cellsOf_next (done := (zs.take k).map btxt) (N := zs.length) (by omega)
        rw [hll] at h
        have := World.news_of_block HI1.out.1 k (.string ByteArray.empty) (by rw [← h]; simp)
        have e : (⟨w.heap.size, 0, none⟩ : Addr).add k = ⟨w.heap.size, k, none⟩ := by unfold Addr.add; split <;> simp_all
        rwa [e] at this
      have hfr : w1.frozen? ⟨w.heap.size, k, none⟩ = false := by
        have h := HI1.out.1
        simp [World.frozen?, h]
      have HN := hide (HST.out w1 HI1.out)
      rw [HBT.out] at HN
      clear hb HST HI HI1 HBT hll a0 a1
      go_wp2
      go_roundw
      case rel => exact ⟨k + 1, by omega, by go_num, HN.out⟩
      case measure => simp [intOf]; omega
    · obtain rfl : k = zs.length := by omega
      have HJ := hide (Go.Proofs.Tryz.strings_Join w.heap.size 0 zs.length (zs.map btxt) ⟨#[32]⟩ wr HI.out.full (heap_lt HI.out.1) (by rw [List.length_map]; omega) (by rw [List.length_map]; exact Nat.le_refl _) (by rw [btxt_data]; show (Lib.join _ [32]).length ≤ _; omega))
      rw [List.length_map, btxt_data] at HJ
      have HBE := hide HI.out.2
      clear HI
      go_wp2_with fail
      refine HJ.out.mono ?_
      rintro e w1 ⟨rfl, hb⟩
      have HF := hide (show Below w.heap.size w w1 from HBE.out.trans (hb.mono HBE.out.size))
      have e1 : (Lib.join (zs.map txt) (⟨#[32]⟩ : ByteArray).data.toList) = Lib.join (zs.map txt) [32] := rfl
      rw [e1]
      have HVT := hide (show vtxt zs = 40 :: (Lib.join (zs.map txt) [32] ++ [41]) from rfl)
      have hsz : (⟨(Lib.join (zs.map txt) [32]).toArray⟩ : ByteArray).size ≤ 100000 := by show (Lib.join (zs.map txt) [32]).toArray.size ≤ _; simpa using hlen
      clear hb HJ HBE e1
      generalize Lib.join (zs.map txt) [32] = l at *
      have hsz2 : ((⟨#[40]⟩ : ByteArray) ++ ⟨l.toArray⟩).size ≤ 100001 := by rw [ByteArray.size_append]; show 1 + _ ≤ _; omega
      go_wp2
      go_ret
      rw [joined, ← HVT.out]
      exact ⟨rfl, HF.out⟩

end Go.Proofs.YtofegldopgkikaaGreatDoor

/- Ahead of HermiteSays and KernelSays: closed facts, bounds. -/
namespace Go.Proofs.YtofegldopgkikaaGreatDoor
open Go.RowKit Limbs Digs

theorem bp_dp (k : Nat) : bp k ≤ dp (3 * k) := by
  induction k with
  | zero => exact (by decide : (1 : Int) ≤ 1)
  | succ k ih =>
    have e : 3 * (k + 1) = 3 * k + 3 := by omega
    rw [e]
    show 4294967296 * bp k ≤ dp (3 * k + 3)
    have e2 : dp (3 * k + 3) = 10000 * (10000 * (10000 * dp (3 * k))) := rfl
    rw [e2]
    have := bp_pos k
    omega

theorem RowR.fits {w : World} {v : Value} {zs : List Int} {n m : Nat} (h : RowR w v zs n) (hz : ∀ j, j < zs.length → -dp m < zs.getD j 0 ∧ zs.getD j 0 < dp m) : RowR w v zs m := by
  obtain ⟨ao, cap, hv, h3, h4⟩ := h
  refine ⟨ao, cap, hv, h3, fun h0 => ?_⟩
  obtain ⟨b, cur, fz', e, hh, hc⟩ := h4 h0
  refine ⟨b, cur, fz', e, hh, fun i hi => ?_⟩
  obtain ⟨s, o, l, c', h5, h6, h7⟩ := hc i hi
  exact ⟨s, o, l, c', h5, h6, h7.fits (hz i hi).1 (hz i hi).2⟩

theorem MatR.fits {w : World} {v : Value} {zss : List (List Int)} {n m : Nat} (h : MatR w v zss n) (hz : ∀ zs ∈ zss, ∀ j, j < zs.length → -dp m < zs.getD j 0 ∧ zs.getD j 0 < dp m) : MatR w v zss m := by
  obtain ⟨ao, cap, hv, h3, h4⟩ := h
  refine ⟨ao, cap, hv, h3, fun h0 => ?_⟩
  obtain ⟨b, e, hlt, hc⟩ := h4 h0
  refine ⟨b, e, hlt, fun i zs hi => ?_⟩
  obtain ⟨u, h5, h6⟩ := hc i zs hi
  exact ⟨u, h5, h6.fits (hz zs (List.mem_of_getElem? hi))⟩

/-- Numbers of so many limbs are not too great. -/
theorem MatN.small {w : World} {v : Value} {zss : List (List Int)} {n : Nat} (h : MatN w v zss n) : ∀ zs ∈ zss, ∀ j, j < zs.length → -dp (3 * n) < zs.getD j 0 ∧ zs.getD j 0 < dp (3 * n) := fun zs hzs j hj => by
  obtain ⟨i, hi, e⟩ := List.getElem_of_mem hzs
  obtain ⟨b, off, cap', e1, hlt, u, hc, hu⟩ := h.at i hi
  rw [e] at hu
  obtain ⟨b', off', cap2, e2⟩ := hu.form (by omega)
  subst e2
  obtain ⟨-, neg, o, l, c, -, -, hz⟩ := hu.at j hj
  have h1 := hz.ab_lt
  have h2 := bp_dp n
  unfold ab at h1
  split at h1 <;> omega

theorem closed_two {hs : List (List Int)} {p : Nat → Nat} (h : FormL 2 hs p) (ha : Alikes 2 (InL hs) (InL [[4, 6], [2, 4]])) : hs = [[2, 0], [0, 2]] := by
  refine formL_one h (p' := fun k => k) ⟨fun r hr => ?_, ⟨fun i k hik hk => hik, fun i hi => hi, fun i b hi hb => ?_, fun i hi => ?_, fun i k hik hk => ?_⟩⟩ ?_
  · simp only [List.mem_cons, List.mem_nil_iff, or_false] at hr
    rcases hr with rfl | rfl <;> rfl
  · have hi' : i < 2 := hi
    obtain rfl : i = 1 := by omega
    obtain rfl : b = 0 := by omega
    rfl
  · have hi' : i < 2 := hi
    rcases (by omega : i = 0 ∨ i = 1) with rfl | rfl <;> decide
  · have hk' : k < 2 := hk
    obtain rfl : i = 0 := by omega
    obtain rfl : k = 1 := by omega
    decide
  · have g1 : Gens 2 (InL [[2, 0], [0, 2]]) [2, 0] := .base (List.mem_cons_self) rfl
    have g2 : Gens 2 (InL [[2, 0], [0, 2]]) [0, 2] := .base (List.mem_cons_of_mem _ (List.mem_singleton.2 rfl)) rfl
    have k1 : Gens 2 (InL [[4, 6], [2, 4]]) [4, 6] := .base (List.mem_cons_self) rfl
    have k2 : Gens 2 (InL [[4, 6], [2, 4]]) [2, 4] := .base (List.mem_cons_of_mem _ (List.mem_singleton.2 rfl)) rfl
    refine ha.trans (.of (fun v hv _ => ?_) (fun v hv _ => ?_))
    · have hv' : v = [4, 6] ∨ v = [2, 4] := by simpa [InL] using hv
      rcases hv' with rfl | rfl
      · exact Gens.comb 2 3 g1 g2
      · exact Gens.comb 1 2 g1 g2
    · have hv' : v = [2, 0] ∨ v = [0, 2] := by simpa [InL] using hv
      rcases hv' with rfl | rfl
      · exact Gens.comb 2 (-3) k1 k2
      · exact Gens.comb (-1) 2 k1 k2

theorem txt_two : txt 2 = [50] := by
  unfold txt Lib.itoa
  rw [if_neg (by decide), show (2 : Int).toNat = 2 from rfl, Lib.decDigits, dif_pos (by decide)]
  rfl

theorem text20 : vtxt [2, 0] = [40, 50, 32, 48, 41] := by
  unfold vtxt
  rw [List.map_cons, List.map_cons, List.map_nil, txt_zero, txt_two]
  rfl

theorem text02 : vtxt [0, 2] = [40, 48, 32, 50, 41] := by
  unfold vtxt
  rw [List.map_cons, List.map_cons, List.map_nil, txt_zero, txt_two]
  rfl

theorem two_rowsH (w : World) (va vb : Value) (xs ys : List Int) (n : Nat) (ha : VecN w va xs n) (hb : VecN w vb ys n) : MatN (w.alloc (.cells #[va, vb] 39)) (.slice (some ⟨w.heap.size, 0, none⟩) 2 2) [xs, ys] n := by
  have hbA : Below w.heap.size w (w.alloc (.cells #[va, vb] 39)) := (Below.refl _ _).alloc (Nat.le_refl _) _
  refine ⟨_, _, rfl, Nat.le_refl _, fun _ => ⟨_, _, rfl, by simp, fun i zs hi => ?_⟩⟩
  have hlt := (List.getElem?_eq_some_iff.1 hi).1
  match i, hlt with
  | 0, _ =>
    simp only [List.getElem?_cons_zero, Option.some.injEq] at hi
    subst hi
    exact ⟨va, by rw [World.cell?_alloc_new]; rfl, ha.below hbA (Nat.le_refl _)⟩
  | 1, _ =>
    simp only [List.getElem?_cons_succ, List.getElem?_cons_zero, Option.some.injEq] at hi
    subst hi
    exact ⟨vb, by rw [World.cell?_alloc_new]; rfl, hb.below hbA (Nat.le_refl _)⟩

theorem row_two (w : World) (x y : Int) (hx : -1000 ≤ x ∧ x ≤ 1000) (hy : -1000 ≤ y ∧ y ≤ 1000) : RowS (w.alloc (.cells #[.int .i64 x, .int .i64 y] 3)) (.slice (some ⟨w.heap.size, 0, none⟩) 2 2) [x, y] := by
  refine ⟨_, _, rfl, Nat.le_refl _, fun i => ?_, fun _ => ⟨_, _, rfl, by simp, fun i hi => ?_⟩⟩
  · match i with
    | 0 => simp; omega
    | 1 => simp; omega
    | i + 2 => simp
  · match i, hi with
    | 0, _ => rw [World.cell?_alloc_new]; rfl
    | 1, _ => rw [World.cell?_alloc_new]; rfl

set_option linter.unusedSimpArgs false in
set_option maxRecDepth 100000 in
set_option maxHeartbeats 3200000 in
theorem mats_any (w : World) (ht : Tab w) : Calls Tryz.prog 4 #[] w fun e w' => e = .returned (.bool true) ∧ Below w.heap.size w w' := by
  have HT := hide ht
  clear ht
  have HO1 := hide (ofV_any _ _ [4, 6] (row_two w 4 6 (by decide) (by decide)) (by decide))
  have HB0 : Hid (Below w.heap.size w (w.alloc (.cells #[.int .i64 4, .int .i64 6] 3))) := (Below.refl _ _).alloc (Nat.le_refl _) _
  go_enter Tryz.func4, Tryz.ntmps4
  go_wp2_with fail
  refine HO1.out.mono ?_
  rintro e w1 ⟨P1, rfl, ho1⟩
  have HV1 := hide ho1.vec
  have HB1 := hide (HB0.out.trans (ho1.below.mono (by simp)))
  rw [show ([4, 6] : List Int).length = 2 from rfl]
  have HO2 := hide (ofV_any _ _ [2, 4] (row_two w1 2 4 (by decide) (by decide)) (by decide))
  have HB1a : Hid (Below w1.heap.size w1 (w1.alloc (.cells #[.int .i64 2, .int .i64 4] 3))) := (Below.refl _ _).alloc (Nat.le_refl _) _
  clear ho1 HO1 HB0
  go_wp2_with fail
  refine HO2.out.mono ?_
  rintro e w2 ⟨P2, rfl, ho2⟩
  have hb12 := HB1a.out.trans (ho2.below.mono (by simp))
  have HV2 := hide ho2.vec
  have HV1' := hide (HV1.out.below hb12 (Nat.le_refl _))
  have HB2 := hide (HB1.out.trans (hb12.mono HB1.out.size))
  rw [show ([2, 4] : List Int).length = 2 from rfl]
  have HM2 := hide (two_rowsH w2 _ _ [4, 6] [2, 4] 2 HV1'.out HV2.out)
  have HHE : Hid (Calls Tryz.prog 13 #[.slice (some ⟨w2.heap.size, 0, none⟩) 2 2, .int .i64 2] (w2.alloc (.cells #[.slice (some ⟨P1, 0, none⟩) 2 2, .slice (some ⟨P2, 0, none⟩) 2 2] 39)) fun e w' => HermPost (w2.alloc (.cells #[.slice (some ⟨P1, 0, none⟩) 2 2, .slice (some ⟨P2, 0, none⟩) 2 2] 39)) 2 2 [[4, 6], [2, 4]] e w') :=
    hermite_any _ _ [[4, 6], [2, 4]] 2 2 HM2.out (fun us h => by simp only [List.mem_cons, List.mem_nil_iff, or_false] at h; rcases h with rfl | rfl <;> rfl) (by decide) (by decide) (by decide) (by decide)
  have HB2a : Hid (Below w2.heap.size w2 (w2.alloc (.cells #[.slice (some ⟨P1, 0, none⟩) 2 2, .slice (some ⟨P2, 0, none⟩) 2 2] 39))) := (Below.refl _ _).alloc (Nat.le_refl _) _
  clear ho2 hb12 HV2 HV1 HV1' HO2 HM2 HB1 HB1a
  go_wp2_with fail
  refine HHE.out.mono ?_
  rintro e w3 ⟨u3, hs, p, rfl, h1, h2, h3, h4, h5⟩
  obtain rfl := closed_two h4 h5
  have hb3 : Below w2.heap.size w2 w3 := HB2a.out.trans (h3.mono (by simp))
  have HB3 := hide (HB2.out.trans (hb3.mono HB2.out.size))
  obtain ⟨ob, ooff, ocap, rfl, olt, uv, cv, hv⟩ := h1.at 0 (by decide)
  obtain ⟨_, _, _, e, -, uv', cv', hv'⟩ := h1.at 1 (by decide)
  simp only [Value.slice.injEq, Option.some.injEq, Addr.mk.injEq, and_true, true_and] at e
  obtain ⟨⟨rfl, rfl⟩, rfl⟩ := e
  have HTX : Hid (Calls Tryz.prog 15 #[uv] w3 fun e w' => e = .returned (.string ⟨#[40, 50, 32, 48, 41]⟩) ∧ Below w3.heap.size w3 w') := by
    have := vtext_any w3 uv [2, 0] _ (HT.out.below HB3.out) hv (by decide) (by decide) (by decide) (by
      rw [List.map_cons, List.map_cons, List.map_nil, txt_zero, txt_two]
      decide)
    rw [text20] at this
    exact this
  have HTY : Hid (∀ w4, Below w3.heap.size w3 w4 → Calls Tryz.prog 15 #[uv'] w4 fun e w' => e = .returned (.string ⟨#[40, 48, 32, 50, 41]⟩) ∧ Below w4.heap.size w4 w') := fun w4 hb => by
    have := vtext_any w4 uv' [0, 2] _ ((HT.out.below HB3.out).below hb) (hv'.below hb (Nat.le_refl _)) (by decide) (by decide) (by decide) (by
      rw [List.map_cons, List.map_cons, List.map_nil, txt_zero, txt_two]
      decide)
    rw [text02] at this
    exact this
  rw [show ([[2, 0], [0, 2]] : List (List Int)).length = 2 from rfl]
  rw [Nat.add_zero] at cv
  obtain ⟨vo, vcap, rfl, -, -⟩ := hv
  obtain ⟨vo', vcap', rfl, -, -⟩ := hv'
  clear h1 h2 h3 h4 h5 HHE hb3 HB2a HB2
  go_wp2_with fail
  refine (same_zero w3).mono ?_
  rintro e w3' ⟨rfl, rfl⟩
  go_wp2_with fail
  refine HTX.out.mono ?_
  rintro e w4 ⟨rfl, hb4⟩
  have cv4 := (hb4.cell (p := ⟨ob, ooff + 1, none⟩) olt).trans cv'
  have HB4 := hide hb4
  have olt4 := Nat.lt_of_lt_of_le olt hb4.size
  clear hb4 cv cv' HTX
  go_wp2_with fail
  refine (HTY.out w4 HB4.out).mono ?_
  rintro e w5 ⟨rfl, hb5⟩
  have HB5 := hide (HB3.out.trans ((HB4.out.trans (hb5.mono HB4.out.size)).mono HB3.out.size))
  clear hb5 HTY
  go_wp2
  go_ret
  exact ⟨rfl, HB5.out⟩

end Go.Proofs.YtofegldopgkikaaGreatDoor
