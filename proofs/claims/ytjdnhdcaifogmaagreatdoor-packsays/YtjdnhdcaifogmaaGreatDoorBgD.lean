/- Generators: what is wrong with one, are two the same? -/
import Derived.Test.YtjdnhdcaifogmaaGreatDoorBgB
import Derived.Test.YtjdnhdcaifogmaaGreatDoorBpG
import Derived.Deep.RegionHeld3

namespace Go.Proofs.YtjdnhdcaifogmaaGreatDoor
open Go.RowKit

theorem RowS.form {w : World} {v : Value} {ks : List Int} (h : RowS w v ks) : ∃ ao cap, v = .slice ao ks.length cap := by
 obtain ⟨ao, cap, e, -⟩ := h
 exact ⟨ao, cap, e⟩

theorem RowS.cellAt {w : World} {ao : Option Addr} {cap : Nat} {ks : List Int} (h : RowS w (.slice ao ks.length cap) ks) (k : Nat) (hk : k < ks.length) : ∃ b off, ao = some ⟨b, off, none⟩ ∧ b < w.heap.size ∧ w.cell? ⟨b, off + k, none⟩ = some (.int .i64 (ks.getD k 0)) := by
 obtain ⟨ao', cap', e, -, -, h⟩ := h
 simp only [Value.slice.injEq, true_and] at e
 obtain ⟨rfl, rfl⟩ := e
 obtain ⟨b, off, rfl, hlt, hc⟩ := h (by omega)
 exact ⟨b, off, rfl, hlt, hc k hk⟩

theorem genF_at {v : List Int} {n : Int} {k : Nat} (hn : (v.length : Int) = n) (hk : k < v.length) (h : v.getD k 0 < -999 ∨ 999 < v.getD k 0) : genF v n = 1 := by
 unfold genF
 rw [if_pos hn, if_neg]
 rw [List.all_eq_true]
 intro h'
 have := h' v[k] (List.getElem_mem hk)
 have e : v.getD k 0 = v[k] := by rw [List.getD_eq_getElem?_getD, List.getElem?_eq_getElem hk]; rfl
 rw [e] at h
 simp at this
 omega

theorem genF_all {v : List Int} {n : Int} (hn : (v.length : Int) = n) (h : ∀ k, k < v.length → -999 ≤ v.getD k 0 ∧ v.getD k 0 ≤ 999) : genF v n = 0 := by
 refine genF_ok.2 ⟨hn, fun z hz => ?_⟩
 obtain ⟨k, hk, rfl⟩ := List.getElem_of_mem hz
 have := h k hk
 rwa [List.getD_eq_getElem?_getD, List.getElem?_eq_getElem hk] at this

set_option linter.unusedSimpArgs false in
set_option maxRecDepth 100000 in
set_option maxHeartbeats 1600000 in
theorem checkGen_any (w : World) (v : Value) (ks : List Int) (n : Int) (hv : RowS w v ks) (hl6 : ks.length ≤ 1000000) : Calls Tryz.prog 41 #[v, .int .i64 n] w fun e w' => e = .returned (errV (genF ks n)) ∧ w' = w := by
 have HV := hide hv
 obtain ⟨ao, cap, rfl⟩ := hv.form
 clear hv
 by_cases hn : (ks.length : Int) = n
 ·have g1 : ((ks.length : Int) != n) = false := by rw [bne_eq_false_iff_eq]; exact hn
  have HN := hide hn
  generalize hr : genF ks n = r
  have HR := hide hr
  clear hr hn
  go_enter Tryz.func41, Tryz.ntmps41
  go_wp2
  go_loopw [13] (fun i wr => ∃ k : Nat, k ≤ ks.length ∧ i = .int .i64 k ∧ Hid (∀ j, j < k → -999 ≤ ks.getD j 0 ∧ ks.getD j 0 ≤ 999) ∧ wr = w) (fun i _ => ks.length - (intOf i).toNat)
  case atStart => exact ⟨0, Nat.zero_le _, rfl, hide (fun j hj => absurd hj (by omega)), rfl⟩
  case round =>
   obtain ⟨k, hk, rfl, HA, hw⟩ := hrel
   subst wr
   by_cases hkl : k < ks.length
   ·obtain ⟨b, off, rfl, hlt, hc⟩ := HV.out.cellAt k hkl
    have HG : Hid ((ks.getD k 0 < -999 ∨ 999 < ks.getD k 0) → r = 1) := fun h => HR.out.symm.trans (genF_at HN.out hkl h)
    have HA' : Hid ((-999 ≤ ks.getD k 0 ∧ ks.getD k 0 ≤ 999) → ∀ j, j < k + 1 → -999 ≤ ks.getD j 0 ∧ ks.getD j 0 ≤ 999) := fun h j hj => by
     by_cases e : j < k
     ·exact HA.out j e
     ·obtain rfl : j = k := by omega
      exact h
    generalize ks.getD k 0 = z at *
    by_cases h1 : z < -999
    ·have e1 : decide (z < -999) = true := decide_eq_true h1
     obtain rfl := HG.out (.inl h1)
     clear h1
     go_wp2
     go_ret
     exact ⟨rfl, rfl⟩
    ·have e1 : decide (z < -999) = false := decide_eq_false h1
     by_cases h2 : 999 < z
     ·have e2 : decide (999 < z) = true := decide_eq_true h2
      obtain rfl := HG.out (.inr h2)
      clear h1 h2
      go_wp2
      go_ret
      exact ⟨rfl, rfl⟩
     ·have e2 : decide (999 < z) = false := decide_eq_false h2
      have HA2 := hide (HA'.out ⟨by omega, by omega⟩)
      clear h1 h2
      go_wp2
      go_roundw
      case rel => exact ⟨k + 1, by omega, by go_num, HA2, by first | rfl | trivial⟩
      case measure => simp [intOf]; omega
   ·obtain rfl : k = ks.length := by omega
    obtain rfl : 0 = r := (genF_all HN.out HA.out).symm.trans HR.out
    go_wp2
    go_ret
    exact ⟨rfl, rfl⟩
 ·have g1 : ((ks.length : Int) != n) = true := by rw [bne_iff_ne]; exact hn
  have hr : genF ks n = 6 := by unfold genF; rw [if_neg hn]
  rw [hr]
  clear hn
  go_enter Tryz.func41, Tryz.ntmps41
  go_wp2
  go_ret
  exact ⟨rfl, rfl⟩

set_option linter.unusedSimpArgs false in
set_option maxRecDepth 100000 in
set_option maxHeartbeats 1600000 in
theorem genFault_any (w : World) (v : Value) (ks : List Int) (n : Int) (hv : RowS w v ks) (hl6 : ks.length ≤ 1000000) : Calls Tryz.prog 36 #[v, .int .i64 n] w fun e w' => e = .returned (.int .i64 ((genF ks n : Nat) : Int)) ∧ w' = w := by
 have HV := hide hv
 obtain ⟨ao, cap, rfl⟩ := hv.form
 clear hv
 by_cases hn : (ks.length : Int) = n
 ·have g1 : ((ks.length : Int) != n) = false := by rw [bne_eq_false_iff_eq]; exact hn
  have HN := hide hn
  generalize hr : genF ks n = r
  have HR := hide hr
  clear hr hn
  go_enter Tryz.func36, Tryz.ntmps36
  go_wp2
  go_loopw [5] (fun i wr => ∃ k : Nat, k ≤ ks.length ∧ i = .int .i64 k ∧ Hid (∀ j, j < k → -999 ≤ ks.getD j 0 ∧ ks.getD j 0 ≤ 999) ∧ wr = w) (fun i _ => ks.length - (intOf i).toNat)
  case atStart => exact ⟨0, Nat.zero_le _, rfl, hide (fun j hj => absurd hj (by omega)), rfl⟩
  case round =>
   obtain ⟨k, hk, rfl, HA, hw⟩ := hrel
   subst wr
   by_cases hkl : k < ks.length
   ·obtain ⟨b, off, rfl, hlt, hc⟩ := HV.out.cellAt k hkl
    have HG : Hid ((ks.getD k 0 < -999 ∨ 999 < ks.getD k 0) → r = 1) := fun h => HR.out.symm.trans (genF_at HN.out hkl h)
    have HA' : Hid ((-999 ≤ ks.getD k 0 ∧ ks.getD k 0 ≤ 999) → ∀ j, j < k + 1 → -999 ≤ ks.getD j 0 ∧ ks.getD j 0 ≤ 999) := fun h j hj => by
     by_cases e : j < k
     ·exact HA.out j e
     ·obtain rfl : j = k := by omega
      exact h
    generalize ks.getD k 0 = z at *
    by_cases h1 : z < -999
    ·have e1 : decide (z < -999) = true := decide_eq_true h1
     obtain rfl := HG.out (.inl h1)
     clear h1
     go_wp2
     go_ret
     exact ⟨rfl, rfl⟩
    ·have e1 : decide (z < -999) = false := decide_eq_false h1
     by_cases h2 : 999 < z
     ·have e2 : decide (999 < z) = true := decide_eq_true h2
      obtain rfl := HG.out (.inr h2)
      clear h1 h2
      go_wp2
      go_ret
      exact ⟨rfl, rfl⟩
     ·have e2 : decide (999 < z) = false := decide_eq_false h2
      have HA2 := hide (HA'.out ⟨by omega, by omega⟩)
      clear h1 h2
      go_wp2
      go_roundw
      case rel => exact ⟨k + 1, by omega, by go_num, HA2, by first | rfl | trivial⟩
      case measure => simp [intOf]; omega
   ·obtain rfl : k = ks.length := by omega
    obtain rfl : 0 = r := (genF_all HN.out HA.out).symm.trans HR.out
    go_wp2
    go_ret
    exact ⟨rfl, rfl⟩
 ·have g1 : ((ks.length : Int) != n) = true := by rw [bne_iff_ne]; exact hn
  have hr : genF ks n = 6 := by unfold genF; rw [if_neg hn]
  rw [hr]
  clear hn
  go_enter Tryz.func36, Tryz.ntmps36
  go_wp2
  go_ret
  exact ⟨rfl, rfl⟩

set_option linter.unusedSimpArgs false in
set_option maxRecDepth 100000 in
set_option maxHeartbeats 1600000 in
theorem sameNumbers_any (w : World) (va vb : Value) (xs ys : List Int) (ha : RowS w va xs) (hb : RowS w vb ys) (hl6 : xs.length ≤ 1000000) : Calls Tryz.prog 34 #[va, vb] w fun e w' => e = .returned (.bool (decide (xs = ys))) ∧ Below w.heap.size w w' := by
 have HA := hide ha; have HB := hide hb
 obtain ⟨ao, acap, rfl⟩ := ha.form
 obtain ⟨bo, bcap, rfl⟩ := hb.form
 clear ha hb
 by_cases hl : xs.length = ys.length
 ·have g1 : ((xs.length : Int) != (ys.length : Int)) = false := by rw [bne_eq_false_iff_eq]; omega
  have HL := hide hl
  generalize hr : decide (xs = ys) = r
  have HR := hide hr
  clear hr hl
  go_enter Tryz.func34, Tryz.ntmps34
  go_wp2
  go_loopw [5] (fun i wr => ∃ k : Nat, k ≤ xs.length ∧ i = .int .i64 k ∧ Hid (∀ j, j < k → xs.getD j 0 = ys.getD j 0) ∧ Hid (Below w.heap.size w wr)) (fun i _ => xs.length - (intOf i).toNat)
  case atStart => exact ⟨0, Nat.zero_le _, rfl, hide (fun j hj => absurd hj (by omega)), hide (Below.refl _ _)⟩
  case round =>
   obtain ⟨k, hk, rfl, HE, HBE⟩ := hrel
   by_cases hkl : k < xs.length
   ·have hky : k < ys.length := by have := HL.out; omega
    obtain ⟨b1, o1, rfl, hlt1, c1⟩ := (HA.out.below HBE.out (Nat.le_refl _)).cellAt k hkl
    obtain ⟨b2, o2, rfl, hlt2, c2⟩ := (HB.out.below HBE.out (Nat.le_refl _)).cellAt k hky
    have HNE : Hid (xs.getD k 0 ≠ ys.getD k 0 → r = false) := fun h => by
     rw [← HR.out]; exact decide_eq_false fun e => h (by rw [e])
    have HE' : Hid (xs.getD k 0 = ys.getD k 0 → ∀ j, j < k + 1 → xs.getD j 0 = ys.getD j 0) := fun h j hj => by
     by_cases e : j < k
     ·exact HE.out j e
     ·obtain rfl : j = k := by omega
      exact h
    generalize xs.getD k 0 = z at *
    generalize ys.getD k 0 = y at *
    have HBD := hide (HBE.out.drew)
    go_wp2_with fail
    go_region_held3 (fun w' => w'.cell? ⟨b1, o1 + k, none⟩ = some (.int .i64 z) ∧ w'.cell? ⟨b2, o2 + k, none⟩ = some (.int .i64 y)) (go_keep) (fail)
    by_cases hz : z = y
    ·have e1 : (z != y) = false := by rw [bne_eq_false_iff_eq]; exact hz
     have HE2 := hide (HE'.out hz)
     clear hz
     go_wp2
     go_roundw
     case rel => exact ⟨k + 1, by omega, by go_num, HE2, by first | exact HBD | exact HBE⟩
     case measure => simp [intOf]; omega
    ·have e1 : (z != y) = true := by rw [bne_iff_ne]; exact hz
     obtain rfl := HNE.out hz
     clear hz
     go_wp2
     go_ret
     exact ⟨rfl, by first | exact HBD.out | exact HBE.out⟩
   ·obtain rfl : k = xs.length := by omega
    obtain rfl : true = r := by
     rw [← HR.out]
     refine (decide_eq_true ?_).symm
     apply List.ext_getElem HL.out
     intro j h1 h2
     have := HE.out j h1
     rwa [List.getD_eq_getElem?_getD, List.getD_eq_getElem?_getD, List.getElem?_eq_getElem h1, List.getElem?_eq_getElem h2] at this
    go_wp2
    go_ret
    exact ⟨rfl, HBE.out⟩
 ·have g1 : ((xs.length : Int) != (ys.length : Int)) = true := by rw [bne_iff_ne]; omega
  have hr : decide (xs = ys) = false := decide_eq_false fun e => hl (by rw [e])
  rw [hr]
  clear hr hl
  go_enter Tryz.func34, Tryz.ntmps34
  go_wp2
  go_ret
  exact ⟨rfl, Below.refl _ _⟩

set_option linter.unusedSimpArgs false in
set_option maxRecDepth 100000 in
set_option maxHeartbeats 1600000 in
theorem equalI_any (w : World) (va vb : Value) (xs ys : List Int) (ha : RowS w va xs) (hb : RowS w vb ys) (hl6 : xs.length ≤ 1000000) : Calls Tryz.prog 63 #[va, vb] w fun e w' => e = .returned (.bool (decide (xs = ys))) ∧ Below w.heap.size w w' := by
 have HA := hide ha; have HB := hide hb
 obtain ⟨ao, acap, rfl⟩ := ha.form
 obtain ⟨bo, bcap, rfl⟩ := hb.form
 clear ha hb
 by_cases hl : xs.length = ys.length
 ·have g1 : ((xs.length : Int) != (ys.length : Int)) = false := by rw [bne_eq_false_iff_eq]; omega
  have HL := hide hl
  generalize hr : decide (xs = ys) = r
  have HR := hide hr
  clear hr hl
  go_enter Tryz.func63, Tryz.ntmps63
  go_wp2
  go_loopw [13] (fun i wr => ∃ k : Nat, k ≤ xs.length ∧ i = .int .i64 k ∧ Hid (∀ j, j < k → xs.getD j 0 = ys.getD j 0) ∧ Hid (Below w.heap.size w wr)) (fun i _ => xs.length - (intOf i).toNat)
  case atStart => exact ⟨0, Nat.zero_le _, rfl, hide (fun j hj => absurd hj (by omega)), hide (Below.refl _ _)⟩
  case round =>
   obtain ⟨k, hk, rfl, HE, HBE⟩ := hrel
   by_cases hkl : k < xs.length
   ·have hky : k < ys.length := by have := HL.out; omega
    obtain ⟨b1, o1, rfl, hlt1, c1⟩ := (HA.out.below HBE.out (Nat.le_refl _)).cellAt k hkl
    obtain ⟨b2, o2, rfl, hlt2, c2⟩ := (HB.out.below HBE.out (Nat.le_refl _)).cellAt k hky
    have HNE : Hid (xs.getD k 0 ≠ ys.getD k 0 → r = false) := fun h => by
     rw [← HR.out]; exact decide_eq_false fun e => h (by rw [e])
    have HE' : Hid (xs.getD k 0 = ys.getD k 0 → ∀ j, j < k + 1 → xs.getD j 0 = ys.getD j 0) := fun h j hj => by
     by_cases e : j < k
     ·exact HE.out j e
     ·obtain rfl : j = k := by omega
      exact h
    generalize xs.getD k 0 = z at *
    generalize ys.getD k 0 = y at *
    have HBD := hide (HBE.out.drew)
    go_wp2_with fail
    go_region_held3 (fun w' => w'.cell? ⟨b1, o1 + k, none⟩ = some (.int .i64 z) ∧ w'.cell? ⟨b2, o2 + k, none⟩ = some (.int .i64 y)) (go_keep) (fail)
    by_cases hz : z = y
    ·have e1 : (z != y) = false := by rw [bne_eq_false_iff_eq]; exact hz
     have HE2 := hide (HE'.out hz)
     clear hz
     go_wp2
     go_roundw
     case rel => exact ⟨k + 1, by omega, by go_num, HE2, by first | exact HBD | exact HBE⟩
     case measure => simp [intOf]; omega
    ·have e1 : (z != y) = true := by rw [bne_iff_ne]; exact hz
     obtain rfl := HNE.out hz
     clear hz
     go_wp2
     go_ret
     exact ⟨rfl, by first | exact HBD.out | exact HBE.out⟩
   ·obtain rfl : k = xs.length := by omega
    obtain rfl : true = r := by
     rw [← HR.out]
     refine (decide_eq_true ?_).symm
     apply List.ext_getElem HL.out
     intro j h1 h2
     have := HE.out j h1
     rwa [List.getD_eq_getElem?_getD, List.getD_eq_getElem?_getD, List.getElem?_eq_getElem h1, List.getElem?_eq_getElem h2] at this
    go_wp2
    go_ret
    exact ⟨rfl, HBE.out⟩
 ·have g1 : ((xs.length : Int) != (ys.length : Int)) = true := by rw [bne_iff_ne]; omega
  have hr : decide (xs = ys) = false := decide_eq_false fun e => hl (by rw [e])
  rw [hr]
  clear hr hl
  go_enter Tryz.func63, Tryz.ntmps63
  go_wp2
  go_ret
  exact ⟨rfl, Below.refl _ _⟩

end Go.Proofs.YtjdnhdcaifogmaaGreatDoor

/- Moves of a region that draws its order, for operations whose guard says no. -/
namespace Go.Proofs.YtjdnhdcaifogmaaGreatDoor
open Go

variable {P : Program} {ops : Array Oper} {Q : Exit → Act → World → Prop} {md : Region.Mode} {S : World → Prop}

theorem held_run (i d : Nat) {oi : Oper} {v : Value} {fuel : Nat} {listed : Array Bool} {a : Act} {w : World} (hi : ops[i]? = some oi) (hd : oi.dst = some d)
  (hs : Region.noSelect ops = true) (hf : Region.free md ops listed i = true) (hr : (Region.ready md ops listed).contains i = true)
  (hQ : ∀ c a w, Q (.panic c) (a.put (some d) v) w → Q (.panic c) a w) (hw : Region.wanted oi (yielded ops a.tmps) = true) (hy : ∀ w, S w → (execOp a.eval oi).run P w = .ok (.value v) w) (hS : S w)
  (h : wpAnyH P md ops Q S fuel (listed.setIfInBounds i true) (a.put (some d) v) w) : wpAnyH P md ops Q S (fuel + 1) listed a w :=
 wpAnyH_take hi hs hf hr (by rw [hd]; exact hQ) (.inl ⟨hw, hy⟩) hS (by rw [hd]; exact h)

theorem held_skip (i d : Nat) {oi : Oper} {fuel : Nat} {listed : Array Bool} {a : Act} {w : World} (hi : ops[i]? = some oi) (hd : oi.dst = some d)
  (hs : Region.noSelect ops = true) (hf : Region.free md ops listed i = true) (hr : (Region.ready md ops listed).contains i = true)
  (hQ : ∀ c a w, Q (.panic c) (a.put (some d) undef) w → Q (.panic c) a w) (hw : Region.wanted oi (yielded ops a.tmps) = false) (hS : S w)
  (h : wpAnyH P md ops Q S fuel (listed.setIfInBounds i true) (a.put (some d) undef) w) : wpAnyH P md ops Q S (fuel + 1) listed a w :=
 wpAnyH_take hi hs hf hr (by rw [hd]; exact hQ) (.inr ⟨hw, rfl⟩) hS (by rw [hd]; exact h)

end Go.Proofs.YtjdnhdcaifogmaaGreatDoor

/- Where a name stands in a catalog: binary search. -/
namespace Go.Proofs.YtjdnhdcaifogmaaGreatDoor
open Go.RowKit

structure PlV (w : World) (b2 b3 : Nat) (ao : Option Addr) (cap : Nat) (qs : List Nc) (s : ByteArray) : Prop where
 c2 : w.cell? ⟨b2, 0, none⟩ = some (.slice ao qs.length cap)
 l2 : b2 < w.heap.size
 c3 : w.cell? ⟨b3, 0, none⟩ = some (.string s)
 l3 : b3 < w.heap.size
 cat : CatN w (.slice ao qs.length cap) qs

theorem PlV.below {w w' : World} {b2 b3 : Nat} {ao : Option Addr} {cap : Nat} {qs : List Nc} {s : ByteArray} (h : PlV w b2 b3 ao cap qs s) (hb : Below w.heap.size w w') : PlV w' b2 b3 ao cap qs s :=
 ⟨(hb.cell (p := ⟨b2, 0, none⟩) h.l2).trans h.c2, Nat.lt_of_lt_of_le h.l2 hb.size, (hb.cell (p := ⟨b3, 0, none⟩) h.l3).trans h.c3, Nat.lt_of_lt_of_le h.l3 hb.size, h.cat.below hb⟩

set_option linter.unusedSimpArgs false in
set_option maxRecDepth 100000 in
set_option maxHeartbeats 1600000 in
theorem place1_any (w : World) (b2 b3 : Nat) (ao : Option Addr) (cap : Nat) (qs : List Nc) (s : ByteArray) (h : PlV w b2 b3 ao cap qs s) (k : Nat) (hk : k < qs.length) (hq : qs.length ≤ 1000000) :
  Calls Tryz.prog 58 #[.int .i64 (k : Int), .pointer (some ⟨b2, 0, none⟩), .pointer (some ⟨b3, 0, none⟩)] w fun e w' => e = .returned (.bool (!nlt qs[k].x.name s)) ∧ Below w.heap.size w w' := by
 obtain ⟨c2, l2, c3, l3, hc⟩ := h
 obtain ⟨b, off, cap', e⟩ := hc.form (by omega)
 simp only [Value.slice.injEq, true_and] at e
 obtain ⟨rfl, rfl⟩ := e
 obtain ⟨hlt, d0, -, -, -⟩ := hc.at k hk
 have HB := hide ((Below.refl w.heap.size w).drew)
 clear hc
 unfold nlt
 generalize qs[k].x.name = nm at *
 go_enter Tryz.func58, Tryz.ntmps58
 go_wp2_with fail
 go_region_held3 (fun w' => w'.cell? ⟨b2, 0, none⟩ = some (.slice (some ⟨b, off, none⟩) qs.length cap) ∧ w'.cell? ⟨b3, 0, none⟩ = some (.string s) ∧ w'.cell? ⟨b, off + k * 3, none⟩ = some (.string nm)) (go_keep) (fail)
 go_wp2
 go_ret
 exact ⟨rfl, HB.out⟩

theorem half_two (i j : Nat) : ((i : Int) + (j : Int)) / 2 = (((i + j) / 2 : Nat) : Int) := by omega

set_option linter.unusedSimpArgs false in
set_option maxRecDepth 100000 in
set_option maxHeartbeats 1600000 in
theorem search_any (w : World) (b2 b3 : Nat) (ao : Option Addr) (cap : Nat) (qs : List Nc) (s : ByteArray) (h : PlV w b2 b3 ao cap qs s) (hq : qs.length ≤ 1000000) (hs : (qs.map (·.x)).Pairwise (fun x y => nlt x.name y.name = true)) :
  Calls Tryz.prog 57 #[.int .i64 (qs.length : Int), .func (.func 58) #[] #[.pointer (some ⟨b2, 0, none⟩), .pointer (some ⟨b3, 0, none⟩)]] w fun e w' => e = .returned (.int .i64 (placeL (qs.map (·.x)) s : Nat)) ∧ Below w.heap.size w w' := by
 have HP := hide h; have HS := hide hs
 clear h hs
 go_enter Tryz.func57, Tryz.ntmps57
 go_wp2
 go_loopw [5, 6] (fun i j wr => ∃ a b : Nat, a ≤ placeL (qs.map (·.x)) s ∧ placeL (qs.map (·.x)) s ≤ b ∧ b ≤ qs.length ∧ i = .int .i64 a ∧ j = .int .i64 b ∧ Hid (Below w.heap.size w wr)) (fun i j _ => (intOf j).toNat - (intOf i).toNat)
 case atStart => exact ⟨0, qs.length, Nat.zero_le _, by have := placeL_le (qs.map (·.x)) s; rwa [List.length_map] at this, Nat.le_refl _, rfl, rfl, hide (Below.refl _ _)⟩
 case round =>
  obtain ⟨a, b, ha, hb, hbl, rfl, rfl, HB⟩ := hrel
  by_cases hab : a < b
  ·have hm1 : (a + b) / 2 < b := by omega
   have hm2 : a ≤ (a + b) / 2 := by omega
   have e2 := half_two a b
   have HP1 := hide (HP.out.below HB.out)
   have hcal := place1_any wr b2 b3 ao cap qs s HP1.out ((a + b) / 2) (by omega) hq
   have HC := hide hcal
   have HLo : Hid (nlt qs[(a + b) / 2].x.name s = true → (a + b) / 2 + 1 ≤ placeL (qs.map (·.x)) s) := fun h => by
    by_cases h' : (a + b) / 2 + 1 ≤ placeL (qs.map (·.x)) s
    ·exact h'
    ·have := placeL_from HS.out (s := s) (i := (a + b) / 2) (by omega) (by rw [List.length_map]; omega)
     rw [List.getElem_map, h] at this; cases this
   have HUp : Hid (nlt qs[(a + b) / 2].x.name s = false → placeL (qs.map (·.x)) s ≤ (a + b) / 2) := fun h => by
    by_cases h' : placeL (qs.map (·.x)) s ≤ (a + b) / 2
    ·exact h'
    ·obtain ⟨h1, h2⟩ := placeL_before (cs := qs.map (·.x)) (s := s) (i := (a + b) / 2) (by omega)
     rw [List.getElem_map, h] at h2; cases h2
   clear hcal
   generalize placeL (qs.map (·.x)) s = P at *
   generalize nlt qs[(a + b) / 2].x.name s = r at *
   generalize (a + b) / 2 = m at *
   go_wp2_with fail
   refine HC.out.mono ?_
   rintro e w2 ⟨rfl, hb2⟩
   have HB2 := hide (HB.out.trans (hb2.mono HB.out.size))
   clear hb2 HC HP1 e2
   cases r with
   | true =>
    have hlo := HLo.out rfl
    clear HLo HUp
    go_wp2
    go_roundw
    case rel => exact ⟨m + 1, b, hlo, hb, hbl, by go_num, rfl, HB2⟩
    case measure => simp [intOf]; omega
   | false =>
    have hup := HUp.out rfl
    clear HLo HUp
    go_wp2
    go_roundw
    case rel => exact ⟨a, m, ha, hup, by omega, rfl, rfl, HB2⟩
    case measure => simp [intOf]; omega
  ·have hP : placeL (qs.map (·.x)) s = a := by omega
   have HPP := hide hP
   clear hP
   go_wp2
   go_ret
   exact ⟨by rw [HPP.out]; rfl, HB.out⟩

def CatV (w : World) (v : Value) (qs : List Nc) : Prop := ∃ u, v = .agg #[u] ∧ CatN w u qs

theorem CatV.below {W W' : World} {v : Value} {qs : List Nc} (h : CatV W v qs) (hb : Below W.heap.size W W') : CatV W' v qs := by
 obtain ⟨u, e, h⟩ := h
 exact ⟨u, e, h.below hb⟩

theorem one_new (W : World) (u : Value) (t : TypeId) : (W.alloc (.cells #[u] t)).cell? ⟨W.heap.size, 0, none⟩ = some u := by
 rw [World.cell?_alloc_new]; rfl

set_option linter.unusedSimpArgs false in
set_option maxRecDepth 100000 in
set_option maxHeartbeats 1600000 in
theorem place_any (w : World) (v : Value) (qs : List Nc) (s : ByteArray) (h : CatV w v qs) (hq : qs.length ≤ 1000000) (hs : (qs.map (·.x)).Pairwise (fun x y => nlt x.name y.name = true)) :
  Calls Tryz.prog 39 #[v, .string s] w fun e w' => e = .returned (.tuple #[.int .i64 (placeL (qs.map (·.x)) s : Nat), .bool (hasL (qs.map (·.x)) s)]) ∧ Below w.heap.size w w' := by
 obtain ⟨u, rfl, hu⟩ := h
 obtain ⟨ao, cap, rfl, -⟩ := id hu
 have hb1 := alloc_below w (.cells #[.slice ao qs.length cap] 27)
 have hb2 := alloc_below (w.alloc (.cells #[.slice ao qs.length cap] 27)) (.cells #[.string s] 9)
 have hb12 := hb1.trans (hb2.mono hb1.size)
 have HP : Hid (PlV ((w.alloc (.cells #[.slice ao qs.length cap] 27)).alloc (.cells #[.string s] 9)) w.heap.size (w.heap.size + 1) ao cap qs s) := by
  refine ⟨(hb2.cell (p := ⟨w.heap.size, 0, none⟩) (by simp)).trans (one_new _ _ _), by simp; omega, ?_, by simp, hu.below hb12⟩
  have := one_new (w.alloc (.cells #[.slice ao qs.length cap] 27)) (.string s) 9
  have e : (w.alloc (.cells #[.slice ao qs.length cap] 27)).heap.size = w.heap.size + 1 := by simp
  rwa [e] at this
 have HB := hide hb12
 obtain ⟨p2, -, p3, -, -⟩ := HP.out
 have HL := placeL_le (qs.map (·.x)) s
 rw [List.length_map] at HL
 have HSE := hide (fun (W0 : World) (hP : PlV W0 w.heap.size (w.heap.size + 1) ao cap qs s) => search_any W0 _ _ ao cap qs s hP hq hs)
 have HH : Hid (∀ h : placeL (qs.map (·.x)) s < qs.length, hasL (qs.map (·.x)) s = decide (qs[placeL (qs.map (·.x)) s].x.name = s)) := fun hlt => by
  by_cases h : hasL (qs.map (·.x)) s = true
  ·rw [h]
   obtain ⟨h1, h2⟩ := (hasL_iff hs).1 h
   rw [List.getElem_map] at h2
   exact (decide_eq_true h2).symm
  ·rw [Bool.not_eq_true] at h
   rw [h]
   refine (decide_eq_false fun h' => ?_).symm
   have : hasL (qs.map (·.x)) s = true := (hasL_iff hs).2 ⟨by rw [List.length_map]; exact hlt, by rw [List.getElem_map]; exact h'⟩
   rw [h] at this; cases this
 have HNo : Hid (¬ placeL (qs.map (·.x)) s < qs.length → hasL (qs.map (·.x)) s = false) := fun hlt => by
  cases h : hasL (qs.map (·.x)) s with
  | false => rfl
  | true =>
   obtain ⟨h1, -⟩ := (hasL_iff hs).1 h
   rw [List.length_map] at h1
   exact absurd h1 hlt
 clear hb1 hb2 hb12 hs hu
 generalize placeL (qs.map (·.x)) s = P at *
 generalize hasL (qs.map (·.x)) s = r at *
 go_enter Tryz.func39, Tryz.ntmps39
 go_wp2_with fail
 generalize ((w.alloc (.cells #[.slice ao qs.length cap] 27)).alloc (.cells #[.string s] 9)) = W0 at *
 refine (HSE.out W0 HP.out).mono ?_
 rintro e w1 ⟨rfl, hb1⟩
 have HP1 := hide (HP.out.below hb1)
 have HB1 := hide (HB.out.trans (hb1.mono HB.out.size))
 have HBD := hide (HB1.out.drew)
 clear hb1 p2 p3 HP HB
 obtain ⟨p2, -, p3, -, hcat⟩ := HP1.out
 by_cases hlt : P < qs.length
 ·obtain ⟨b, off, cap', e⟩ := hcat.form (by omega)
  simp only [Value.slice.injEq, true_and] at e
  obtain ⟨rfl, rfl⟩ := e
  obtain ⟨hbl, d0, -, -, -⟩ := hcat.at _ hlt
  have HE : Hid ((qs[P].x.name.toList == s.toList) = r) := (toList_beq _ _).trans (HH.out hlt).symm
  clear hcat HH HNo
  generalize qs[P].x.name = nm at *
  go_wp2_with fail
  go_region_held3 (fun w' => w'.cell? ⟨w.heap.size, 0, none⟩ = some (.slice (some ⟨b, off, none⟩) qs.length cap) ∧ w'.cell? ⟨w.heap.size + 1, 0, none⟩ = some (.string s) ∧ w'.cell? ⟨b, off + P * 3, none⟩ = some (.string nm)) (go_keep) (fail)
  go_wp2
  go_ret2
  exact ⟨by rw [HE.out]; rfl, HBD.out⟩
 ·obtain rfl := HNo.out hlt
  clear hcat HH HNo
  go_wp2_with fail
  refine wp_region_held_drew (S := (fun w' => w'.cell? ⟨w.heap.size, 0, none⟩ = some (.slice ao qs.length cap) ∧ w'.cell? ⟨w.heap.size + 1, 0, none⟩ = some (.string s))) (by kernel_rfl) (by (try dsimp only); go_keep) (fun hHeld => ?_)
  refine held_run (v := ?_) 0 12 rfl rfl (by kernel_rfl) (by kernel_rfl) (by kernel_rfl) (fun _ _ _ h => h) (by rfl) ?_ (by assumption) ?_
  rotate_left
  ·(intro w hSw; (try dsimp only at hSw); go_simp; with_reducible rfl)
  simp only [Act.put, List.setIfInBounds_toArray, List.set_cons_zero, List.set_cons_succ]
  refine held_run (v := ?_) 1 13 rfl rfl (by kernel_rfl) (by kernel_rfl) (by kernel_rfl) (fun _ _ _ h => h) (by rfl) ?_ (by assumption) ?_
  rotate_left
  ·(intro w hSw; (try dsimp only at hSw); go_simp; with_reducible rfl)
  simp only [Act.put, List.setIfInBounds_toArray, List.set_cons_zero, List.set_cons_succ]
  refine held_run (v := ?_) 2 14 rfl rfl (by kernel_rfl) (by kernel_rfl) (by kernel_rfl) (fun _ _ _ h => h) (by rfl) ?_ (by assumption) ?_
  rotate_left
  ·(intro w hSw; (try dsimp only at hSw); go_simp; with_reducible rfl)
  simp only [Act.put, List.setIfInBounds_toArray, List.set_cons_zero, List.set_cons_succ]
  refine held_run (v := ?_) 3 15 rfl rfl (by kernel_rfl) (by kernel_rfl) (by kernel_rfl) (fun _ _ _ h => h) (by rfl) ?_ (by assumption) ?_
  rotate_left
  ·(intro w hSw; (try dsimp only at hSw); go_simp; with_reducible rfl)
  simp only [Act.put, List.setIfInBounds_toArray, List.set_cons_zero, List.set_cons_succ]
  refine held_run (v := ?_) 4 16 rfl rfl (by kernel_rfl) (by kernel_rfl) (by kernel_rfl) (fun _ _ _ h => h) (by rfl) ?_ (by assumption) ?_
  rotate_left
  ·(intro w hSw; (try dsimp only at hSw); go_simp; with_reducible rfl)
  simp only [Act.put, List.setIfInBounds_toArray, List.set_cons_zero, List.set_cons_succ]
  refine held_run (v := ?_) 5 17 rfl rfl (by kernel_rfl) (by kernel_rfl) (by kernel_rfl) (fun _ _ _ h => h) (by rfl) ?_ (by assumption) ?_
  rotate_left
  ·(intro w hSw; (try dsimp only at hSw); go_simp; with_reducible rfl)
  simp only [Act.put, List.setIfInBounds_toArray, List.set_cons_zero, List.set_cons_succ]
  refine held_run (v := ?_) 6 18 rfl rfl (by kernel_rfl) (by kernel_rfl) (by kernel_rfl) (fun _ _ _ h => h) (by rfl) ?_ (by assumption) ?_
  rotate_left
  ·(intro w hSw; (try dsimp only at hSw); go_simp; with_reducible rfl)
  simp only [Act.put, List.setIfInBounds_toArray, List.set_cons_zero, List.set_cons_succ]
  refine held_skip 7 19 rfl rfl (by kernel_rfl) (by kernel_rfl) (by kernel_rfl) (fun _ _ _ h => h) (by rfl) (by assumption) ?_
  simp only [Act.put, List.setIfInBounds_toArray, List.set_cons_zero, List.set_cons_succ]
  refine held_skip 8 20 rfl rfl (by kernel_rfl) (by kernel_rfl) (by kernel_rfl) (fun _ _ _ h => h) (by rfl) (by assumption) ?_
  simp only [Act.put, List.setIfInBounds_toArray, List.set_cons_zero, List.set_cons_succ]
  refine held_skip 9 21 rfl rfl (by kernel_rfl) (by kernel_rfl) (by kernel_rfl) (fun _ _ _ h => h) (by rfl) (by assumption) ?_
  simp only [Act.put, List.setIfInBounds_toArray, List.set_cons_zero, List.set_cons_succ]
  refine held_skip 10 22 rfl rfl (by kernel_rfl) (by kernel_rfl) (by kernel_rfl) (fun _ _ _ h => h) (by rfl) (by assumption) ?_
  simp only [Act.put, List.setIfInBounds_toArray, List.set_cons_zero, List.set_cons_succ]
  refine held_skip 11 23 rfl rfl (by kernel_rfl) (by kernel_rfl) (by kernel_rfl) (fun _ _ _ h => h) (by rfl) (by assumption) ?_
  simp only [Act.put, List.setIfInBounds_toArray, List.set_cons_zero, List.set_cons_succ]
  refine held_skip 12 24 rfl rfl (by kernel_rfl) (by kernel_rfl) (by kernel_rfl) (fun _ _ _ h => h) (by rfl) (by assumption) ?_
  simp only [Act.put, List.setIfInBounds_toArray, List.set_cons_zero, List.set_cons_succ]
  refine held_skip 13 25 rfl rfl (by kernel_rfl) (by kernel_rfl) (by kernel_rfl) (fun _ _ _ h => h) (by rfl) (by assumption) ?_
  simp only [Act.put, List.setIfInBounds_toArray, List.set_cons_zero, List.set_cons_succ]
  refine held_skip 14 26 rfl rfl (by kernel_rfl) (by kernel_rfl) (by kernel_rfl) (fun _ _ _ h => h) (by rfl) (by assumption) ?_
  simp only [Act.put, List.setIfInBounds_toArray, List.set_cons_zero, List.set_cons_succ]
  refine held_run (v := ?_) 15 27 rfl rfl (by kernel_rfl) (by kernel_rfl) (by kernel_rfl) (fun _ _ _ h => h) (by rfl) ?_ (by assumption) ?_
  rotate_left
  ·(intro w hSw; (try dsimp only at hSw); go_simp; with_reducible rfl)
  simp only [Act.put, List.setIfInBounds_toArray, List.set_cons_zero, List.set_cons_succ]
  refine held_run (v := ?_) 16 4 rfl rfl (by kernel_rfl) (by kernel_rfl) (by kernel_rfl) (fun _ _ _ h => h) (by rfl) ?_ (by assumption) ?_
  rotate_left
  ·(intro w hSw; (try dsimp only at hSw); go_simp; with_reducible rfl)
  simp only [Act.put, List.setIfInBounds_toArray, List.set_cons_zero, List.set_cons_succ]
  refine held_run (v := ?_) 17 5 rfl rfl (by kernel_rfl) (by kernel_rfl) (by kernel_rfl) (fun _ _ _ h => h) (by rfl) ?_ (by assumption) ?_
  rotate_left
  ·(intro w hSw; (try dsimp only at hSw); go_simp; with_reducible rfl)
  simp only [Act.put, List.setIfInBounds_toArray, List.set_cons_zero, List.set_cons_succ]
  refine wpAnyH_done (by kernel_rfl) ?_ _
  go_wp2
  go_ret2
  exact ⟨rfl, HBD.out⟩

end Go.Proofs.YtjdnhdcaifogmaaGreatDoor
