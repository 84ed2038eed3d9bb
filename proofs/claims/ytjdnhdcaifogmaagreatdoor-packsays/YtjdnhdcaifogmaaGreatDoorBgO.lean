/- Generators: what is wrong with one, are two the same? -/
import Derived.Test.YtjdnhdcaifogmaaGreatDoorBpG
import Derived.Deep.RegionHeld3
import Derived.Lib.AppendZeros

namespace Go.Proofs.YtjdnhdcaifogmaaGreatDoor
open Go.RowKit

theorem RowS.form {w : World} {v : Value} {ks : List Int} (h : RowS w v ks) : ∃ ao cap, v = .slice ao ks.length cap := by
 obtain ⟨ao, cap, e, -⟩ := h
 exact ⟨ao, cap, e⟩

theorem RowS.cellAt {w : World} {ao : Option Addr} {cap : Nat} {ks : List Int} (h : RowS w (.slice ao ks.length cap) ks) (k : Nat) (hk : k < ks.length) : ∃ b off, ao = some ⟨b, off, none⟩ ∧ b < w.heap.size ∧ w.cell? ⟨b, off + k, none⟩ = some (.int .i64 (ks.getD k 0)) := by
 obtain ⟨ao', cap', e, -, -, h⟩ := h
 simp only [Value.slice.injEq, true_and] at e
 obtain ⟨rfl, rfl⟩ := e
 obtain ⟨b, off, rfl, hlt, hc⟩ := h (by omega)
 exact ⟨b, off, rfl, hlt, hc k hk⟩

theorem genF_at {v : List Int} {n : Int} {k : Nat} (hn : (v.length : Int) = n) (hk : k < v.length) (h : v.getD k 0 < -999 ∨ 999 < v.getD k 0) : genF v n = 1 := by
 unfold genF
 rw [if_pos hn, if_neg]
 rw [List.all_eq_true]
 intro h'
 have := h' v[k] (List.getElem_mem hk)
 have e : v.getD k 0 = v[k] := by rw [List.getD_eq_getElem?_getD, List.getElem?_eq_getElem hk]; rfl
 rw [e] at h
 simp at this
 omega

theorem genF_all {v : List Int} {n : Int} (hn : (v.length : Int) = n) (h : ∀ k, k < v.length → -999 ≤ v.getD k 0 ∧ v.getD k 0 ≤ 999) : genF v n = 0 := by
 refine genF_ok.2 ⟨hn, fun z hz => ?_⟩
 obtain ⟨k, hk, rfl⟩ := List.getElem_of_mem hz
 have := h k hk
 rwa [List.getD_eq_getElem?_getD, List.getElem?_eq_getElem hk] at this

set_option linter.unusedSimpArgs false in
set_option maxRecDepth 100000 in
set_option maxHeartbeats 1600000 in
theorem checkGen_any (w : World) (v : Value) (ks : List Int) (n : Int) (hv : RowS w v ks) (hl6 : ks.length ≤ 1000000) : Calls Tryz.prog 41 #[v, .int .i64 n] w fun e w' => e = .returned (errV (genF ks n)) ∧ w' = w := by
 have HV := hide hv
 obtain ⟨ao, cap, rfl⟩ := hv.form
 clear hv
 by_cases hn : (ks.length : Int) = n
 ·have g1 : ((ks.length : Int) != n) = false := by rw [bne_eq_false_iff_eq]; exact hn
  have HN := hide hn
  generalize hr : genF ks n = r
  have HR := hide hr
  clear hr hn
  go_enter Tryz.func41, Tryz.ntmps41
  go_wp2
  go_loopw [13] (fun i wr => ∃ k : Nat, k ≤ ks.length ∧ i = .int .i64 k ∧ Hid (∀ j, j < k → -999 ≤ ks.getD j 0 ∧ ks.getD j 0 ≤ 999) ∧ wr = w) (fun i _ => ks.length - (intOf i).toNat)
  case atStart => exact ⟨0, Nat.zero_le _, rfl, hide (fun j hj => absurd hj (by omega)), rfl⟩
  case round =>
   obtain ⟨k, hk, rfl, HA, hw⟩ := hrel
   subst wr
   by_cases hkl : k < ks.length
   ·obtain ⟨b, off, rfl, hlt, hc⟩ := HV.out.cellAt k hkl
    have HG : Hid ((ks.getD k 0 < -999 ∨ 999 < ks.getD k 0) → r = 1) := fun h => HR.out.symm.trans (genF_at HN.out hkl h)
    have HA' : Hid ((-999 ≤ ks.getD k 0 ∧ ks.getD k 0 ≤ 999) → ∀ j, j < k + 1 → -999 ≤ ks.getD j 0 ∧ ks.getD j 0 ≤ 999) := fun h j hj => by
     by_cases e : j < k
     ·exact HA.out j e
     ·obtain rfl : j = k := by omega
      exact h
    generalize ks.getD k 0 = z at *
    by_cases h1 : z < -999
    ·have e1 : decide (z < -999) = true := decide_eq_true h1
     obtain rfl := HG.out (.inl h1)
     clear h1
     go_wp2
     go_ret
     exact ⟨rfl, rfl⟩
    ·have e1 : decide (z < -999) = false := decide_eq_false h1
     by_cases h2 : 999 < z
     ·have e2 : decide (999 < z) = true := decide_eq_true h2
      obtain rfl := HG.out (.inr h2)
      clear h1 h2
      go_wp2
      go_ret
      exact ⟨rfl, rfl⟩
     ·have e2 : decide (999 < z) = false := decide_eq_false h2
      have HA2 := hide (HA'.out ⟨by omega, by omega⟩)
      clear h1 h2
      go_wp2
      go_roundw
      case rel => exact ⟨k + 1, by omega, by go_num, HA2, by first | rfl | trivial⟩
      case measure => simp [intOf]; omega
   ·obtain rfl : k = ks.length := by omega
    obtain rfl : 0 = r := (genF_all HN.out HA.out).symm.trans HR.out
    go_wp2
    go_ret
    exact ⟨rfl, rfl⟩
 ·have g1 : ((ks.length : Int) != n) = true := by rw [bne_iff_ne]; exact hn
  have hr : genF ks n = 6 := by unfold genF; rw [if_neg hn]
  rw [hr]
  clear hn
  go_enter Tryz.func41, Tryz.ntmps41
  go_wp2
  go_ret
  exact ⟨rfl, rfl⟩

set_option linter.unusedSimpArgs false in
set_option maxRecDepth 100000 in
set_option maxHeartbeats 1600000 in
theorem genFault_any (w : World) (v : Value) (ks : List Int) (n : Int) (hv : RowS w v ks) (hl6 : ks.length ≤ 1000000) : Calls Tryz.prog 36 #[v, .int .i64 n] w fun e w' => e = .returned (.int .i64 ((genF ks n : Nat) : Int)) ∧ w' = w := by
 have HV := hide hv
 obtain ⟨ao, cap, rfl⟩ := hv.form
 clear hv
 by_cases hn : (ks.length : Int) = n
 ·have g1 : ((ks.length : Int) != n) = false := by rw [bne_eq_false_iff_eq]; exact hn
  have HN := hide hn
  generalize hr : genF ks n = r
  have HR := hide hr
  clear hr hn
  go_enter Tryz.func36, Tryz.ntmps36
  go_wp2
  go_loopw [5] (fun i wr => ∃ k : Nat, k ≤ ks.length ∧ i = .int .i64 k ∧ Hid (∀ j, j < k → -999 ≤ ks.getD j 0 ∧ ks.getD j 0 ≤ 999) ∧ wr = w) (fun i _ => ks.length - (intOf i).toNat)
  case atStart => exact ⟨0, Nat.zero_le _, rfl, hide (fun j hj => absurd hj (by omega)), rfl⟩
  case round =>
   obtain ⟨k, hk, rfl, HA, hw⟩ := hrel
   subst wr
   by_cases hkl : k < ks.length
   ·obtain ⟨b, off, rfl, hlt, hc⟩ := HV.out.cellAt k hkl
    have HG : Hid ((ks.getD k 0 < -999 ∨ 999 < ks.getD k 0) → r = 1) := fun h => HR.out.symm.trans (genF_at HN.out hkl h)
    have HA' : Hid ((-999 ≤ ks.getD k 0 ∧ ks.getD k 0 ≤ 999) → ∀ j, j < k + 1 → -999 ≤ ks.getD j 0 ∧ ks.getD j 0 ≤ 999) := fun h j hj => by
     by_cases e : j < k
     ·exact HA.out j e
     ·obtain rfl : j = k := by omega
      exact h
    generalize ks.getD k 0 = z at *
    by_cases h1 : z < -999
    ·have e1 : decide (z < -999) = true := decide_eq_true h1
     obtain rfl := HG.out (.inl h1)
     clear h1
     go_wp2
     go_ret
     exact ⟨rfl, rfl⟩
    ·have e1 : decide (z < -999) = false := decide_eq_false h1
     by_cases h2 : 999 < z
     ·have e2 : decide (999 < z) = true := decide_eq_true h2
      obtain rfl := HG.out (.inr h2)
      clear h1 h2
      go_wp2
      go_ret
      exact ⟨rfl, rfl⟩
     ·have e2 : decide (999 < z) = false := decide_eq_false h2
      have HA2 := hide (HA'.out ⟨by omega, by omega⟩)
      clear h1 h2
      go_wp2
      go_roundw
      case rel => exact ⟨k + 1, by omega, by go_num, HA2, by first | rfl | trivial⟩
      case measure => simp [intOf]; omega
   ·obtain rfl : k = ks.length := by omega
    obtain rfl : 0 = r := (genF_all HN.out HA.out).symm.trans HR.out
    go_wp2
    go_ret
    exact ⟨rfl, rfl⟩
 ·have g1 : ((ks.length : Int) != n) = true := by rw [bne_iff_ne]; exact hn
  have hr : genF ks n = 6 := by unfold genF; rw [if_neg hn]
  rw [hr]
  clear hn
  go_enter Tryz.func36, Tryz.ntmps36
  go_wp2
  go_ret
  exact ⟨rfl, rfl⟩

set_option linter.unusedSimpArgs false in
set_option maxRecDepth 100000 in
set_option maxHeartbeats 1600000 in
theorem sameNumbers_any (w : World) (va vb : Value) (xs ys : List Int) (ha : RowS w va xs) (hb : RowS w vb ys) (hl6 : xs.length ≤ 1000000) : Calls Tryz.prog 34 #[va, vb] w fun e w' => e = .returned (.bool (decide (xs = ys))) ∧ Below w.heap.size w w' := by
 have HA := hide ha; have HB := hide hb
 obtain ⟨ao, acap, rfl⟩ := ha.form
 obtain ⟨bo, bcap, rfl⟩ := hb.form
 clear ha hb
 by_cases hl : xs.length = ys.length
 ·have g1 : ((xs.length : Int) != (ys.length : Int)) = false := by rw [bne_eq_false_iff_eq]; omega
  have HL := hide hl
  generalize hr : decide (xs = ys) = r
  have HR := hide hr
  clear hr hl
  go_enter Tryz.func34, Tryz.ntmps34
  go_wp2
  go_loopw [5] (fun i wr => ∃ k : Nat, k ≤ xs.length ∧ i = .int .i64 k ∧ Hid (∀ j, j < k → xs.getD j 0 = ys.getD j 0) ∧ Hid (Below w.heap.size w wr)) (fun i _ => xs.length - (intOf i).toNat)
  case atStart => exact ⟨0, Nat.zero_le _, rfl, hide (fun j hj => absurd hj (by omega)), hide (Below.refl _ _)⟩
  case round =>
   obtain ⟨k, hk, rfl, HE, HBE⟩ := hrel
   by_cases hkl : k < xs.length
   ·have hky : k < ys.length := by have := HL.out; omega
    obtain ⟨b1, o1, rfl, hlt1, c1⟩ := (HA.out.below HBE.out (Nat.le_refl _)).cellAt k hkl
    obtain ⟨b2, o2, rfl, hlt2, c2⟩ := (HB.out.below HBE.out (Nat.le_refl _)).cellAt k hky
    have HNE : Hid (xs.getD k 0 ≠ ys.getD k 0 → r = false) := fun h => by
     rw [← HR.out]; exact decide_eq_false fun e => h (by rw [e])
    have HE' : Hid (xs.getD k 0 = ys.getD k 0 → ∀ j, j < k + 1 → xs.getD j 0 = ys.getD j 0) := fun h j hj => by
     by_cases e : j < k
     ·exact HE.out j e
     ·obtain rfl : j = k := by omega
      exact h
    generalize xs.getD k 0 = z at *
    generalize ys.getD k 0 = y at *
    have HBD := hide (HBE.out.drew)
    go_wp2_with fail
    go_region_held3 (fun w' => w'.cell? ⟨b1, o1 + k, none⟩ = some (.int .i64 z) ∧ w'.cell? ⟨b2, o2 + k, none⟩ = some (.int .i64 y)) (go_keep) (fail)
    by_cases hz : z = y
    ·have e1 : (z != y) = false := by rw [bne_eq_false_iff_eq]; exact hz
     have HE2 := hide (HE'.out hz)
     clear hz
     go_wp2
     go_roundw
     case rel => exact ⟨k + 1, by omega, by go_num, HE2, by first | exact HBD | exact HBE⟩
     case measure => simp [intOf]; omega
    ·have e1 : (z != y) = true := by rw [bne_iff_ne]; exact hz
     obtain rfl := HNE.out hz
     clear hz
     go_wp2
     go_ret
     exact ⟨rfl, by first | exact HBD.out | exact HBE.out⟩
   ·obtain rfl : k = xs.length := by omega
    obtain rfl : true = r := by
     rw [← HR.out]
     refine (decide_eq_true ?_).symm
     apply List.ext_getElem HL.out
     intro j h1 h2
     have := HE.out j h1
     rwa [List.getD_eq_getElem?_getD, List.getD_eq_getElem?_getD, List.getElem?_eq_getElem h1, List.getElem?_eq_getElem h2] at this
    go_wp2
    go_ret
    exact ⟨rfl, HBE.out⟩
 ·have g1 : ((xs.length : Int) != (ys.length : Int)) = true := by rw [bne_iff_ne]; omega
  have hr : decide (xs = ys) = false := decide_eq_false fun e => hl (by rw [e])
  rw [hr]
  clear hr hl
  go_enter Tryz.func34, Tryz.ntmps34
  go_wp2
  go_ret
  exact ⟨rfl, Below.refl _ _⟩

set_option linter.unusedSimpArgs false in
set_option maxRecDepth 100000 in
set_option maxHeartbeats 1600000 in
theorem equalI_any (w : World) (va vb : Value) (xs ys : List Int) (ha : RowS w va xs) (hb : RowS w vb ys) (hl6 : xs.length ≤ 1000000) : Calls Tryz.prog 63 #[va, vb] w fun e w' => e = .returned (.bool (decide (xs = ys))) ∧ Below w.heap.size w w' := by
 have HA := hide ha; have HB := hide hb
 obtain ⟨ao, acap, rfl⟩ := ha.form
 obtain ⟨bo, bcap, rfl⟩ := hb.form
 clear ha hb
 by_cases hl : xs.length = ys.length
 ·have g1 : ((xs.length : Int) != (ys.length : Int)) = false := by rw [bne_eq_false_iff_eq]; omega
  have HL := hide hl
  generalize hr : decide (xs = ys) = r
  have HR := hide hr
  clear hr hl
  go_enter Tryz.func63, Tryz.ntmps63
  go_wp2
  go_loopw [13] (fun i wr => ∃ k : Nat, k ≤ xs.length ∧ i = .int .i64 k ∧ Hid (∀ j, j < k → xs.getD j 0 = ys.getD j 0) ∧ Hid (Below w.heap.size w wr)) (fun i _ => xs.length - (intOf i).toNat)
  case atStart => exact ⟨0, Nat.zero_le _, rfl, hide (fun j hj => absurd hj (by omega)), hide (Below.refl _ _)⟩
  case round =>
   obtain ⟨k, hk, rfl, HE, HBE⟩ := hrel
   by_cases hkl : k < xs.length
   ·have hky : k < ys.length := by have := HL.out; omega
    obtain ⟨b1, o1, rfl, hlt1, c1⟩ := (HA.out.below HBE.out (Nat.le_refl _)).cellAt k hkl
    obtain ⟨b2, o2, rfl, hlt2, c2⟩ := (HB.out.below HBE.out (Nat.le_refl _)).cellAt k hky
    have HNE : Hid (xs.getD k 0 ≠ ys.getD k 0 → r = false) := fun h => by
     rw [← HR.out]; exact decide_eq_false fun e => h (by rw [e])
    have HE' : Hid (xs.getD k 0 = ys.getD k 0 → ∀ j, j < k + 1 → xs.getD j 0 = ys.getD j 0) := fun h j hj => by
     by_cases e : j < k
     ·exact HE.out j e
     ·obtain rfl : j = k := by omega
      exact h
    generalize xs.getD k 0 = z at *
    generalize ys.getD k 0 = y at *
    have HBD := hide (HBE.out.drew)
    go_wp2_with fail
    go_region_held3 (fun w' => w'.cell? ⟨b1, o1 + k, none⟩ = some (.int .i64 z) ∧ w'.cell? ⟨b2, o2 + k, none⟩ = some (.int .i64 y)) (go_keep) (fail)
    by_cases hz : z = y
    ·have e1 : (z != y) = false := by rw [bne_eq_false_iff_eq]; exact hz
     have HE2 := hide (HE'.out hz)
     clear hz
     go_wp2
     go_roundw
     case rel => exact ⟨k + 1, by omega, by go_num, HE2, by first | exact HBD | exact HBE⟩
     case measure => simp [intOf]; omega
    ·have e1 : (z != y) = true := by rw [bne_iff_ne]; exact hz
     obtain rfl := HNE.out hz
     clear hz
     go_wp2
     go_ret
     exact ⟨rfl, by first | exact HBD.out | exact HBE.out⟩
   ·obtain rfl : k = xs.length := by omega
    obtain rfl : true = r := by
     rw [← HR.out]
     refine (decide_eq_true ?_).symm
     apply List.ext_getElem HL.out
     intro j h1 h2
     have := HE.out j h1
     rwa [List.getD_eq_getElem?_getD, List.getD_eq_getElem?_getD, List.getElem?_eq_getElem h1, List.getElem?_eq_getElem h2] at this
    go_wp2
    go_ret
    exact ⟨rfl, HBE.out⟩
 ·have g1 : ((xs.length : Int) != (ys.length : Int)) = true := by rw [bne_iff_ne]; omega
  have hr : decide (xs = ys) = false := decide_eq_false fun e => hl (by rw [e])
  rw [hr]
  clear hr hl
  go_enter Tryz.func63, Tryz.ntmps63
  go_wp2
  go_ret
  exact ⟨rfl, Below.refl _ _⟩

end Go.Proofs.YtjdnhdcaifogmaaGreatDoor

/- Moves of a region that draws its order, for operations whose guard says no. -/
namespace Go.Proofs.YtjdnhdcaifogmaaGreatDoor
open Go

variable {P : Program} {ops : Array Oper} {Q : Exit → Act → World → Prop} {md : Region.Mode} {S : World → Prop}

end Go.Proofs.YtjdnhdcaifogmaaGreatDoor

/- Where a name stands in a catalog: binary search. -/
namespace Go.Proofs.YtjdnhdcaifogmaaGreatDoor
open Go.RowKit

structure PlV (w : World) (b2 b3 : Nat) (ao : Option Addr) (cap : Nat) (qs : List Nc) (s : ByteArray) : Prop where
 c2 : w.cell? ⟨b2, 0, none⟩ = some (.slice ao qs.length cap)
 l2 : b2 < w.heap.size
 c3 : w.cell? ⟨b3, 0, none⟩ = some (.string s)
 l3 : b3 < w.heap.size
 cat : CatN w (.slice ao qs.length cap) qs

theorem PlV.below {w w' : World} {b2 b3 : Nat} {ao : Option Addr} {cap : Nat} {qs : List Nc} {s : ByteArray} (h : PlV w b2 b3 ao cap qs s) (hb : Below w.heap.size w w') : PlV w' b2 b3 ao cap qs s :=
 ⟨(hb.cell (p := ⟨b2, 0, none⟩) h.l2).trans h.c2, Nat.lt_of_lt_of_le h.l2 hb.size, (hb.cell (p := ⟨b3, 0, none⟩) h.l3).trans h.c3, Nat.lt_of_lt_of_le h.l3 hb.size, h.cat.below hb⟩

def CatV (w : World) (v : Value) (qs : List Nc) : Prop := ∃ u, v = .agg #[u] ∧ CatN w u qs

theorem CatV.below {W W' : World} {v : Value} {qs : List Nc} (h : CatV W v qs) (hb : Below W.heap.size W W') : CatV W' v qs := by
 obtain ⟨u, e, h⟩ := h
 exact ⟨u, e, h.below hb⟩

theorem one_new (W : World) (u : Value) (t : TypeId) : (W.alloc (.cells #[u] t)).cell? ⟨W.heap.size, 0, none⟩ = some u := by
 rw [World.cell?_alloc_new]; rfl

end Go.Proofs.YtjdnhdcaifogmaaGreatDoor

/- Lists whose elements have several cells: what lies in them, what is appended to them. No function of the program. -/
namespace Go.Proofs.YtjdnhdcaifogmaaGreatDoor
open Go.RowKit

def SeqV (W : World) (v : Value) (n : Nat) (cs : List Value) : Prop :=
 ∃ ao cap, v = .slice ao n cap ∧ n ≤ cap ∧ (0 < n → ∃ b off, ao = some ⟨b, off, none⟩ ∧ b < W.heap.size ∧ ∀ j u, cs[j]? = some u → W.cell? ⟨b, off + j, none⟩ = some u)

theorem SeqV.below {C : Nat} {W W' : World} {v : Value} {n : Nat} {cs : List Value} (h : SeqV W v n cs) (hb : Below C W W') (hC : W.heap.size ≤ C) : SeqV W' v n cs := by
 obtain ⟨ao, cap, e, hn, h⟩ := h
 refine ⟨ao, cap, e, hn, fun h0 => ?_⟩
 obtain ⟨b, off, e, hlt, h⟩ := h h0
 exact ⟨b, off, e, Nat.lt_of_lt_of_le hlt hb.size, fun j u hu => (hb.cell (p := ⟨b, off + j, none⟩) (Nat.lt_of_lt_of_le hlt hC)).trans (h j u hu)⟩

theorem add_none (b off k : Nat) : (⟨b, off, none⟩ : Addr).add k = ⟨b, off + k, none⟩ := by unfold Addr.add; split <;> simp_all

theorem SeqV.take {W : World} {ao : Option Addr} {cap n sz : Nat} {cs : List Value} (h : SeqV W (.slice ao n cap) n cs) (k : Nat) (hk : k ≤ n) : SeqV W (.slice ao k cap) k (cs.take (k * sz)) := by
 obtain ⟨ao', cap', e, hn, h⟩ := h
 simp only [Value.slice.injEq, true_and] at e
 obtain ⟨rfl, rfl⟩ := e
 refine ⟨ao, cap, rfl, by omega, fun h0 => ?_⟩
 obtain ⟨b, off, e, hlt, h⟩ := h (by omega)
 exact ⟨b, off, e, hlt, fun j u hu => h j u (by
  rw [List.getElem?_take] at hu
  split at hu
  ·exact hu
  ·cases hu)⟩

theorem SeqV.drop {W : World} {ao : Option Addr} {cap n sz : Nat} {cs : List Value} (h : SeqV W (.slice ao n cap) n cs) (k : Nat) (hk : k ≤ n) (so : Option Addr) (hso : k < n → ∀ b off, ao = some ⟨b, off, none⟩ → so = some ⟨b, off + k * sz, none⟩) : SeqV W (.slice so (n - k) (cap - k)) (n - k) (cs.drop (k * sz)) := by
 obtain ⟨ao', cap', e, hn, h⟩ := h
 simp only [Value.slice.injEq, true_and] at e
 obtain ⟨rfl, rfl⟩ := e
 refine ⟨so, cap - k, rfl, by omega, fun h0 => ?_⟩
 obtain ⟨b, off, rfl, hlt, h⟩ := h (by omega)
 refine ⟨b, off + k * sz, hso (by omega) b off rfl, hlt, fun j u hu => ?_⟩
 rw [List.getElem?_drop] at hu
 have := h (k * sz + j) u hu
 rwa [← Nat.add_assoc] at this

theorem owns_seq {W : World} {base : Nat} {e : TypeId} {sz : Nat} {v : Value} {n : Nat} {xs : List Value} (h : W.ownsRow base e sz v n xs) : SeqV W v n xs := by
 have hx := h.1
 rcases h.2 with ⟨rfl, rfl⟩ | ⟨g, cap, cur, rfl, hb, hh, hc1, hc2, hc3, hc4⟩
 ·exact ⟨none, 0, rfl, Nat.le_refl _, fun h0 => absurd h0 (by omega)⟩
 ·refine ⟨_, cap, rfl, hc1, fun h0 => ⟨g, 0, rfl, heap_lt hh, fun k u hu => ?_⟩⟩
  have hk : k < n * sz := by
   have := (List.getElem?_eq_some_iff.1 hu).1
   omega
  have := World.news_of_block hh k u (by rw [← hc4, List.getElem?_take, if_pos hk] at hu; exact hu)
  rw [add_none] at this
  exact this

abbrev Gc := Value × List Int

def GcIn (W : World) (g : Gc) : Prop := RowS W g.1 g.2

theorem rowsS_of_seq {W : World} {v : Value} {ps : List Gc} (h : SeqV W v ps.length (ps.map (·.1))) (hin : ∀ g ∈ ps, GcIn W g) : RowsS W v (ps.map (·.2)) := by
 obtain ⟨ao, cap, e, hn, hh⟩ := h
 refine ⟨ao, cap, by rw [List.length_map]; exact e, by rw [List.length_map]; exact hn, fun h0 => ?_⟩
 rw [List.length_map] at h0
 obtain ⟨b, off, e', hlt, hc⟩ := hh h0
 refine ⟨b, off, e', hlt, fun i r hi => ?_⟩
 obtain ⟨hi', rfl⟩ := List.getElem?_eq_some_iff.1 hi
 rw [List.length_map] at hi'
 exact ⟨ps[i].1, hc i _ (by rw [List.getElem?_map, List.getElem?_eq_getElem hi']; rfl), by rw [List.getElem_map]; exact hin _ (List.getElem_mem hi')⟩

end Go.Proofs.YtjdnhdcaifogmaaGreatDoor

/- slices.Grow, Concat and Clone of lists of named lattices, and of generators. -/
namespace Go.Proofs.YtjdnhdcaifogmaaGreatDoor
open Go.RowKit

theorem Tryz.infoNamed : (Tryz.prog.info? 66).map (fun i => (i.zero, i.size, i.bytes)) = some (some (.agg #[.string ⟨#[]⟩, .int .i64 0, .slice none 0 0]), 3, 48) := by kernel_rfl
theorem Tryz.infoIntsB : (Tryz.prog.info? 44).map (fun i => (i.zero, i.size, i.bytes)) = some (some (.slice none 0 0), 1, 24) := by kernel_rfl

structure Lists (w : World) (rb : Nat) (us : List Value) (ns : List Nat) (css : List (List Value)) : Prop where
 lt : rb < w.heap.size
 ln : ns.length = us.length
 lc : css.length = us.length
 at' : ∀ k (h : k < us.length), w.cell? ⟨rb, k, none⟩ = some us[k] ∧ SeqV w us[k] (ns[k]'(by omega)) (css[k]'(by omega))

theorem Lists.below {w w' : World} {rb : Nat} {us : List Value} {ns : List Nat} {css : List (List Value)} (h : Lists w rb us ns css) (hb : Below w.heap.size w w') : Lists w' rb us ns css :=
 ⟨Nat.lt_of_lt_of_le h.lt hb.size, h.ln, h.lc, fun k hk => ⟨(hb.cell (p := ⟨rb, k, none⟩) h.lt).trans (h.at' k hk).1, (h.at' k hk).2.below hb (Nat.le_refl _)⟩⟩

end Go.Proofs.YtjdnhdcaifogmaaGreatDoor

/- Moves of a region that draws its order and writes, at its end, cells that it read before: what is held is asked only of the operations ahead of the writes. -/
namespace Go.Proofs.YtjdnhdcaifogmaaGreatDoor
open Go

section
variable {P : Program} {ops : Array Oper} {Q : Exit → Act → World → Prop} {md : Region.Mode} {S : World → Prop} {k : Nat}

def wpUpto (P : Program) (md : Region.Mode) (ops : Array Oper) (Q : Exit → Act → World → Prop) (S : World → Prop) (k : Nat) : Nat → Array Bool → Act → World → Prop
 | 0 => fun listed a w => Region.ready md ops listed = [] ∧ Q .normal a w
 | fuel + 1 => fun listed a w => (Region.ready md ops listed = [] → Q .normal a w) ∧
   ∀ j, j ∈ Region.ready md ops listed → wpOp P ops Q j (fun a' w' => (j < k → S w') ∧ wpUpto P md ops Q S k fuel (listed.setIfInBounds j true) a' w') a w

def waits (md : Region.Mode) (ops : Array Oper) (k i : Nat) (ds : List Nat) : Bool :=
 ((List.range ops.size).all fun j => decide (j < k) || ds.contains j) &&
  ds.all fun j => match ops[j]? with
   | some o => o.after.any fun e => Region.binds md e && (e.on == i || ds.contains e.on)
   | none => true

def ordered (md : Region.Mode) (ops : Array Oper) : Bool :=
 (List.range ops.size).all fun j => match ops[j]? with
  | some o => o.after.all fun e => !Region.binds md e || decide (e.on < j)
  | none => true

end
end Go.Proofs.YtjdnhdcaifogmaaGreatDoor

/- Moves of a region that draws its order: what is held is asked behind some operations alone; operations that read no memory are taken first wherever they stand. -/
namespace Go.Proofs.YtjdnhdcaifogmaaGreatDoor
open Go

section
variable {P : Program} {ops : Array Oper} {Q : Exit → Act → World → Prop} {md : Region.Mode} {S : World → Prop} {A : Nat → Bool}

def wpUp (P : Program) (md : Region.Mode) (ops : Array Oper) (Q : Exit → Act → World → Prop) (S : World → Prop) (A : Nat → Bool) : Nat → Array Bool → Act → World → Prop
 | 0 => fun listed a w => Region.ready md ops listed = [] ∧ Q .normal a w
 | fuel + 1 => fun listed a w => (Region.ready md ops listed = [] → Q .normal a w) ∧
   ∀ j, j ∈ Region.ready md ops listed → wpOp P ops Q j (fun a' w' => (A j = true → S w') ∧ wpUp P md ops Q S A fuel (listed.setIfInBounds j true) a' w') a w

def waitsA (md : Region.Mode) (ops : Array Oper) (A : Nat → Bool) (listed : Array Bool) (i : Nat) (ds : List Nat) : Bool :=
 ((List.range ops.size).all fun j => A j || ds.contains j || listed.getD j false) &&
  ds.all fun j => !listed.getD j false && match ops[j]? with
   | some o => o.after.any fun e => Region.binds md e && (e.on == i || ds.contains e.on)
   | none => true

end

end Go.Proofs.YtjdnhdcaifogmaaGreatDoor

/- bag: a lattice is dropped; generators of one are others. -/
namespace Go.Proofs.YtjdnhdcaifogmaaGreatDoor
open Go.RowKit

def One (W : World) (B : Nat) (u : Value) : Prop := W.cell? ⟨B, 0, none⟩ = some u ∧ W.frozen? ⟨B, 0, none⟩ = false ∧ B < W.heap.size

theorem One.later {W W' : World} {B : Nat} {u : Value} (h : One W B u) (hb : Below W.heap.size W W') : One W' B u :=
 ⟨(hb.cell (p := ⟨B, 0, none⟩) h.2.2).trans h.1, (hb.frozen (p := ⟨B, 0, none⟩) h.2.2).trans h.2.1, Nat.lt_of_lt_of_le h.2.2 hb.size⟩

theorem One.new (W : World) (u : Value) (t : TypeId) : One (W.alloc (.cells #[u] t)) W.heap.size u := ⟨one_new W u t, by simp, by simp⟩

end Go.Proofs.YtjdnhdcaifogmaaGreatDoor

/- bag: the lattice at a place has other generators. -/
namespace Go.Proofs.YtjdnhdcaifogmaaGreatDoor
open Go.RowKit

theorem own_set {W : World} {base : Nat} {e : TypeId} {size : Nat} {g n cap : Nat} {xs : List Value} (h : W.ownsRow base e size (.slice (some ⟨g, 0, none⟩) n cap) n xs) (k : Nat) (u : Value) : (W.setCell ⟨g, k, none⟩ u).ownsRow base e size (.slice (some ⟨g, 0, none⟩) n cap) n (xs.set k u) := by
 refine ⟨by rw [List.length_set]; exact h.1, ?_⟩
 rcases h.2 with ⟨e, -⟩ | ⟨g', cap', cur, e, hb, hh, h1, h2, h3, h4⟩
 ·simp at e
 ·simp only [Value.slice.injEq, Option.some.injEq, Addr.mk.injEq, and_true, true_and] at e
  obtain ⟨rfl, rfl⟩ := e
  have hlt := heap_lt hh
  refine .inr ⟨g, cap, cur.setIfInBounds k u, rfl, hb, ?_, h1, h2, by rw [Array.size_setIfInBounds]; exact h3, ?_⟩
  ·rw [Array.getElem?_eq_getElem hlt, Option.some.injEq] at hh
   simp [World.setCell, hlt, Array.getElem_modify, hh]
  ·rw [Array.toList_setIfInBounds, List.take_set, h4]

theorem own_free {W : World} {base : Nat} {e : TypeId} {size : Nat} {g n cap : Nat} {xs : List Value} (h : W.ownsRow base e size (.slice (some ⟨g, 0, none⟩) n cap) n xs) (k : Nat) : W.frozen? ⟨g, k, none⟩ = false := by
 rcases h.2 with ⟨e, -⟩ | ⟨g', cap', cur, e, hb, hh, -⟩
 ·simp at e
 ·simp only [Value.slice.injEq, Option.some.injEq, Addr.mk.injEq, and_true, true_and] at e
  obtain ⟨rfl, rfl⟩ := e
  simp [World.frozen?, hh]

theorem own_at {W : World} {base : Nat} {e : TypeId} {size : Nat} {v : Value} {n : Nat} {xs : List Value} (h : W.ownsRow base e size v n xs) (h0 : 0 < n) : ∃ g cap, v = .slice (some ⟨g, 0, none⟩) n cap ∧ base ≤ g ∧ ∀ j u, xs[j]? = some u → W.cell? ⟨g, j, none⟩ = some u := by
 obtain ⟨ao, cap, e, -, hh⟩ := owns_seq h
 obtain ⟨b, off, rfl, -, hc⟩ := hh h0
 rcases h.2 with ⟨e', h00⟩ | ⟨g', cap', cur, e', hb, -⟩
 ·omega
 ·rw [e] at e'
  simp only [Value.slice.injEq, Option.some.injEq, Addr.mk.injEq, and_true, true_and] at e'
  obtain ⟨⟨rfl, rfl⟩, rfl⟩ := e'
  exact ⟨b, cap, e, hb, fun j u hu => by have := hc j u hu; rwa [Nat.zero_add] at this⟩

end Go.Proofs.YtjdnhdcaifogmaaGreatDoor

/- A generator is copied; the first generator that is this one. -/
namespace Go.Proofs.YtjdnhdcaifogmaaGreatDoor
open Go.RowKit

def idxG (gs : List (List Int)) (v : List Int) : Int := if gs.contains v then (gs.idxOf v : Int) else -1

end Go.Proofs.YtjdnhdcaifogmaaGreatDoor

/- bag: a generator is put behind the others; the first one that is this one is taken. -/
namespace Go.Proofs.YtjdnhdcaifogmaaGreatDoor
open Go.RowKit

theorem RowS.setOne {W : World} {v : Value} {ks : List Int} (h : RowS W v ks) {p : Addr} (hc : W.cell? p = some (.slice none 0 0)) (x : Value) : RowS (W.setCell p x) v ks := by
 obtain ⟨ao, cap, e, hn, h6, hh⟩ := h
 refine ⟨ao, cap, e, hn, h6, fun h0 => ?_⟩
 obtain ⟨b, off, e', hlt, hcell⟩ := hh h0
 refine ⟨b, off, e', by simpa using hlt, fun i hi => (World.cell?_setCell_other _ _ _ _ fun e => ?_).trans (hcell i hi)⟩
 have := hcell i hi
 rw [← e, hc] at this; cases this

theorem RowsS.setOne {W : World} {v : Value} {gs : List (List Int)} (h : RowsS W v gs) (hne : ∀ g ∈ gs, g ≠ []) {p : Addr} (hc : W.cell? p = some (.slice none 0 0)) (x : Value) : RowsS (W.setCell p x) v gs := by
 obtain ⟨ao, cap, e, hn, hh⟩ := h
 refine ⟨ao, cap, e, hn, fun h0 => ?_⟩
 obtain ⟨b, off, e', hlt, hcell⟩ := hh h0
 refine ⟨b, off, e', by simpa using hlt, fun i r hi => ?_⟩
 obtain ⟨u, hu, hr⟩ := hcell i r hi
 refine ⟨u, (World.cell?_setCell_other _ _ _ _ fun e => ?_).trans hu, hr.setOne hc x⟩
 rw [← e, hc] at hu
 obtain ⟨ao, cap, e2, -⟩ := hr
 rw [e2] at hu
 simp only [Option.some.injEq, Value.slice.injEq] at hu
 exact hne r (List.mem_of_getElem? hi) (List.eq_nil_of_length_eq_zero hu.2.1.symm)

def NonE (qs : List Nc) : Prop := ∀ q ∈ qs, ∀ g ∈ q.x.gens, g ≠ []

theorem CatN.setOne {W : World} {v : Value} {qs : List Nc} (h : CatN W v qs) (hne : NonE qs) {B : Nat} (hc : W.cell? ⟨B, 0, none⟩ = some (.slice none 0 0)) (x : Value) : CatN (W.setCell ⟨B, 0, none⟩ x) v qs := by
 obtain ⟨ao, cap, e, hn, hh⟩ := h
 refine ⟨ao, cap, e, hn, fun h0 => ?_⟩
 obtain ⟨b, off, e', hlt, hcell⟩ := hh h0
 refine ⟨b, off, e', by simpa using hlt, fun i q hi => ?_⟩
 obtain ⟨h1, h2, h3, h4⟩ := hcell i q hi
 refine ⟨(World.cell?_setCell_other _ _ _ _ fun e => ?_).trans h1, (World.cell?_setCell_other _ _ _ _ fun e => ?_).trans h2, (World.cell?_setCell_other _ _ _ _ fun e => ?_).trans h3, RowsS.setOne h4 (hne q (List.mem_of_getElem? hi)) hc x⟩
 ·rw [← e, hc] at h1; cases h1
 ·rw [← e, hc] at h2; cases h2
 ·have := congrArg Addr.off e
  simp at this

def CatRes (w : World) (r : Nat × List Nmd) (e : Ending) (w' : World) : Prop :=
 ((r.1 ≠ 0 ∧ e = .returned (.tuple #[.agg #[.slice none 0 0], errV r.1])) ∨ (r.1 = 0 ∧ ∃ u qs, e = .returned (.tuple #[u, .nilIface]) ∧ qs.map (·.x) = r.2 ∧ CatV w' u qs)) ∧ Below w.heap.size w w'

end Go.Proofs.YtjdnhdcaifogmaaGreatDoor

/- bag: the first generator that is this one is taken. -/
namespace Go.Proofs.YtjdnhdcaifogmaaGreatDoor
open Go.RowKit

end Go.Proofs.YtjdnhdcaifogmaaGreatDoor

/- bag: a lattice is created. -/
namespace Go.Proofs.YtjdnhdcaifogmaaGreatDoor
open Go.RowKit

def ThreeV (W : World) (B : Nat) (u0 u1 u2 : Value) : Prop := W.cell? ⟨B, 0, none⟩ = some u0 ∧ W.cell? ⟨B, 1, none⟩ = some u1 ∧ W.cell? ⟨B, 2, none⟩ = some u2 ∧ B < W.heap.size

theorem ThreeV.later {W W' : World} {B : Nat} {u0 u1 u2 : Value} (h : ThreeV W B u0 u1 u2) (hb : Below W.heap.size W W') : ThreeV W' B u0 u1 u2 :=
 ⟨(hb.cell (p := ⟨B, 0, none⟩) h.2.2.2).trans h.1, (hb.cell (p := ⟨B, 1, none⟩) h.2.2.2).trans h.2.1, (hb.cell (p := ⟨B, 2, none⟩) h.2.2.2).trans h.2.2.1, Nat.lt_of_lt_of_le h.2.2.2 hb.size⟩

theorem ThreeV.new (W : World) (u0 u1 u2 : Value) (t : TypeId) : ThreeV (W.alloc (.cells #[u0, u1, u2] t)) W.heap.size u0 u1 u2 :=
 ⟨by rw [World.cell?_alloc_new]; rfl, by rw [World.cell?_alloc_new]; rfl, by rw [World.cell?_alloc_new]; rfl, by simp⟩

end Go.Proofs.YtjdnhdcaifogmaaGreatDoor

/- bag: has an operation what its kind has a use for, and nothing else? -/
namespace Go.Proofs.YtjdnhdcaifogmaaGreatDoor
open Go.RowKit

def useOk (k n : Int) (l : Nat) : Bool := decide (k = 1 ∧ l = 0) || decide (k = 2 ∧ n = 0 ∧ l = 0) || decide ((k = 3 ∨ k = 4) ∧ n = 0)

end Go.Proofs.YtjdnhdcaifogmaaGreatDoor

/- bag: an operation is applied. -/
namespace Go.Proofs.YtjdnhdcaifogmaaGreatDoor
open Go.RowKit

theorem nonE_of_ok {qs : List Nc} (h : ∀ x ∈ qs.map (·.x), NmOk x) : NonE qs := fun q hq g hg => by
 have hx := h q.x (List.mem_map.2 ⟨q, hq, rfl⟩)
 have := (genF_ok.1 (hx.gens g hg)).1
 intro e
 rw [e] at this
 have := hx.n.1
 simp at *
 omega

theorem CatRes.form {w w' : World} {r : Nat × List Nmd} {e : Ending} (h : CatRes w r e w') : ∃ so sl sc ev, e = .returned (.tuple #[.agg #[.slice so sl sc], ev]) := by
 rcases h.1 with ⟨-, rfl⟩ | ⟨-, u, qs, rfl, -, u', rfl, ao, cap, rfl, -⟩
 ·exact ⟨_, _, _, _, rfl⟩
 ·exact ⟨_, _, _, _, rfl⟩

end Go.Proofs.YtjdnhdcaifogmaaGreatDoor
