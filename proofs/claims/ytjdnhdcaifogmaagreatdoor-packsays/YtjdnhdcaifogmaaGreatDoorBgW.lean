/- The reference: are two lattices the same, two catalogs; where does a name stand? -/
import Derived.Test.YtjdnhdcaifogmaaGreatDoorBpH
import Derived.Test.YtjdnhdcaifogmaaGreatDoorBgP
import Derived.Test.YtjdnhdcaifogmaaGreatDoorBgB
import Derived.Deep.Cut
import Derived.Deep.CutRange
import Derived.Deep.CutBlock

namespace Go.Proofs.YtjdnhdcaifogmaaGreatDoor
open Go.RowKit

theorem rows_ne {xs ys : List (List Int)} {k : Nat} (hx : k < xs.length) (hy : k < ys.length) (h : xs[k] ≠ ys[k]) : xs ≠ ys := fun e => by
 subst e; exact h rfl

theorem two_three (w : World) (a0 a1 a2 b0 b1 b2 : Value) (s t : TypeId) : ThreeV ((w.alloc (.cells #[a0, a1, a2] s)).alloc (.cells #[b0, b1, b2] t)) w.heap.size a0 a1 a2 ∧ ThreeV ((w.alloc (.cells #[a0, a1, a2] s)).alloc (.cells #[b0, b1, b2] t)) (w.heap.size + 1) b0 b1 b2 ∧ Below w.heap.size w ((w.alloc (.cells #[a0, a1, a2] s)).alloc (.cells #[b0, b1, b2] t)) := by
 have hb1 := alloc_below w (.cells #[a0, a1, a2] s)
 have hb2 := alloc_below (w.alloc (.cells #[a0, a1, a2] s)) (.cells #[b0, b1, b2] t)
 have e : (w.alloc (.cells #[a0, a1, a2] s)).heap.size = w.heap.size + 1 := by simp
 refine ⟨(ThreeV.new w a0 a1 a2 s).later hb2, ?_, hb1.trans (hb2.mono hb1.size)⟩
 have := ThreeV.new (w.alloc (.cells #[a0, a1, a2] s)) b0 b1 b2 t
 rwa [e] at this

set_option linter.unusedSimpArgs false in
set_option maxRecDepth 100000 in
set_option maxHeartbeats 1600000 in
theorem sameNamed_any (w : World) (p q : Nc) (hp : NcIn w p) (hq : NcIn w q) (hl : p.x.gens.length ≤ 1000) (hg : ∀ g ∈ p.x.gens, g.length ≤ 1000000) (r : Bool) (hr : r = true ↔ p.x = q.x) :
  Calls Tryz.prog 29 #[p.val, q.val] w fun e w' => e = .returned (.bool r) ∧ Below w.heap.size w w' := by
 obtain ⟨⟨nm, n, gs⟩, po, pl, pc⟩ := p
 obtain ⟨⟨mm, m, hs⟩, qo, ql, qc⟩ := q
 have HP : Hid (RowsS w (.slice po pl pc) gs) := hp
 have HQ : Hid (RowsS w (.slice qo ql qc) hs) := hq
 have HG := hide hg
 have hpl : pl = gs.length := by obtain ⟨_, _, e, -⟩ := id HP.out; simp only [Value.slice.injEq] at e; exact e.2.1
 have hql : ql = hs.length := by obtain ⟨_, _, e, -⟩ := id HQ.out; simp only [Value.slice.injEq] at e; exact e.2.1
 subst hpl hql
 simp only [Nmd.mk.injEq] at hr
 have hl' : gs.length ≤ 1000 := hl
 have hB := toList_beq nm mm
 obtain ⟨x1, x2, hb⟩ := two_three w (.string nm) (.int .i64 n) (.slice po gs.length pc) (.string mm) (.int .i64 m) (.slice qo hs.length qc) 66 66
 have X1 := hide x1; have X2 := hide x2; have HB := hide hb
 obtain ⟨c0, c1, c2, -⟩ := x1
 obtain ⟨d0, d1, d2, -⟩ := x2
 have HR := hide hr
 clear hp hq hg hl hb hr
 show Calls Tryz.prog 29 #[.agg #[.string nm, .int .i64 n, .slice po gs.length pc], .agg #[.string mm, .int .i64 m, .slice qo hs.length qc]] w _
 by_cases h1 : nm = mm
 ·have g1 : (nm.toList == mm.toList) = true := by rw [hB]; exact decide_eq_true h1
  by_cases h2 : n = m
  ·have g2 : (n != m) = false := by rw [bne_eq_false_iff_eq]; exact h2
   by_cases h3 : gs.length = hs.length
   ·have g3 : ((gs.length : Int) != (hs.length : Int)) = false := by rw [bne_eq_false_iff_eq]; omega
    have HL := hide h3
    have HRR : Hid (r = true ↔ gs = hs) := ⟨fun h => (HR.out.1 h).2.2, fun h => HR.out.2 ⟨h1, h2, h⟩⟩
    have H1 := hide h1; have H2 := hide h2
    clear h1 h2 h3 hB HR
    go_enter Tryz.func29, Tryz.ntmps29
    go_wp2_with fail
    generalize ((w.alloc (.cells #[.string nm, .int .i64 n, .slice po gs.length pc] 66)).alloc (.cells #[.string mm, .int .i64 m, .slice qo hs.length qc] 66)) = W0 at *
    clear c0 c1 d0 d1 c2 d2
    go_loopw [5] (fun i wr => ∃ k : Nat, k ≤ gs.length ∧ i = .int .i64 k ∧ Hid (∀ j (h : j < gs.length) (h' : j < hs.length), j < k → gs[j] = hs[j]) ∧ Hid (ThreeV wr w.heap.size (.string nm) (.int .i64 n) (.slice po gs.length pc)) ∧ Hid (ThreeV wr (w.heap.size + 1) (.string mm) (.int .i64 m) (.slice qo hs.length qc)) ∧ Hid (Below w.heap.size w wr)) (fun i _ => gs.length - (intOf i).toNat)
    case atStart => exact ⟨0, Nat.zero_le _, rfl, hide (fun j _ _ hj => absurd hj (by omega)), X1, X2, HB⟩
    case round =>
     clear X1 X2 HB
     obtain ⟨k, hk, rfl, HE, X1, X2, HB⟩ := hrel
     obtain ⟨c0, c1, c2, l1⟩ := X1.out
     obtain ⟨d0, d1, d2, l2⟩ := X2.out
     by_cases hkl : k < gs.length
     ·have hkh : k < hs.length := by have := HL.out; omega
      obtain ⟨b, off, cap, e, hlt, u, cu, hu⟩ := (HP.out.below HB.out).at k hkl
      simp only [Value.slice.injEq, true_and] at e
      obtain ⟨rfl, rfl⟩ := e
      obtain ⟨b', off', cap', e, hlt', v, cv, hv⟩ := (HQ.out.below HB.out).at k hkh
      simp only [Value.slice.injEq, true_and] at e
      obtain ⟨rfl, rfl⟩ := e
      have HU := hide hu; have HV := hide hv
      obtain ⟨uo, uc, rfl⟩ := hu.form
      obtain ⟨vo, vc, rfl⟩ := hv.form
      have hgl := HG.out gs[k] (List.getElem_mem hkl)
      have HNE : Hid (gs[k] ≠ hs[k] → r = false) := fun h => by
       cases hr : r with
       | false => rfl
       | true => exact absurd (HRR.out.1 hr) (rows_ne hkl hkh h)
      have HE' : Hid (gs[k] = hs[k] → ∀ j (h : j < gs.length) (h' : j < hs.length), j < k + 1 → gs[j] = hs[j]) := fun h j h1 h2 hj => by
       by_cases e : j < k
       ·exact HE.out j h1 h2 e
       ·obtain rfl : j = k := by omega
        exact h
      have HGL : Hid (gs[k].length ≤ 1000000) := hgl
      clear hu hv hgl HE
      generalize gs[k] = x at *
      generalize hs[k] = y at *
      go_wp2_with fail
      go_region_held3 (fun w' => w'.cell? ⟨w.heap.size, 2, none⟩ = some (.slice (some ⟨b, off, none⟩) gs.length pc) ∧ w'.cell? ⟨w.heap.size + 1, 2, none⟩ = some (.slice (some ⟨b', off', none⟩) hs.length qc) ∧ w'.cell? ⟨b, off + k, none⟩ = some (.slice uo x.length uc) ∧ w'.cell? ⟨b', off' + k, none⟩ = some (.slice vo y.length vc)) (go_keep)
       (first
        | (go_at_call 34; refine (sameNumbers_any _ _ _ x y (HU.out.below (Below.refl _ _).drew (Nat.le_refl _)) (HV.out.below (Below.refl _ _).drew (Nat.le_refl _)) HGL.out).mono ?_; rintro e w3 ⟨rfl, hb3'⟩; have hb3 : Below wr.heap.size wr w3 := (Below.refl _ _).drew.trans (hb3'.mono (by simp)); have X13 := hide (X1.out.later hb3); have X23 := hide (X2.out.later hb3); have HB3 := hide (HB.out.trans (hb3.mono HB.out.size)); have e1 := (hb3.cell (p := ⟨b, off + k, none⟩) hlt).trans cu; have e2 := (hb3.cell (p := ⟨b', off' + k, none⟩) hlt').trans cv; obtain ⟨-, -, k2, -⟩ := X13.out; obtain ⟨-, -, j2, -⟩ := X23.out; clear hb3 hb3'))
      clear c0 c1 c2 d0 d1 d2 k2 j2 e1 e2 cu cv HU HV HGL X1 X2 HB
      by_cases hxy : x = y
      ·rw [decide_eq_true hxy]
       have HE2 := hide (HE'.out hxy)
       clear hxy
       go_wp2
       go_roundw
       case rel => exact ⟨k + 1, by omega, by go_num, HE2, X13, X23, HB3⟩
       case measure => simp [intOf]; omega
      ·rw [decide_eq_false hxy]
       obtain rfl := HNE.out hxy
       clear hxy
       go_wp2
       go_ret
       exact ⟨rfl, HB3.out⟩
     ·obtain rfl : k = gs.length := by omega
      obtain rfl : true = r := (HRR.out.2 (by
       apply List.ext_getElem HL.out
       intro j h1 h2
       exact HE.out j h1 h2 h1)).symm
      go_wp2
      go_ret
      exact ⟨rfl, HB.out⟩
   ·have g3 : ((gs.length : Int) != (hs.length : Int)) = true := by rw [bne_iff_ne]; omega
    obtain rfl : false = r := by
     cases hr : r with
     | false => rfl
     | true => exact absurd (congrArg List.length (HR.out.1 hr).2.2) h3
    clear h1 h2 h3 hB HR
    go_enter Tryz.func29, Tryz.ntmps29
    go_wp2
    go_ret
    exact ⟨rfl, HB.out⟩
  ·have g2 : (n != m) = true := by rw [bne_iff_ne]; exact h2
   obtain rfl : false = r := by
    cases hr : r with
    | false => rfl
    | true => exact absurd (HR.out.1 hr).2.1 h2
   clear h1 h2 hB HR
   go_enter Tryz.func29, Tryz.ntmps29
   go_wp2
   go_ret
   exact ⟨rfl, HB.out⟩
 ·have g1 : (nm.toList == mm.toList) = false := by rw [hB]; exact decide_eq_false h1
  obtain rfl : false = r := by
   cases hr : r with
   | false => rfl
   | true => exact absurd (HR.out.1 hr).1 h1
  clear h1 hB HR
  go_enter Tryz.func29, Tryz.ntmps29
  go_wp2
  go_ret
  exact ⟨rfl, HB.out⟩

end Go.Proofs.YtjdnhdcaifogmaaGreatDoor

/- The reference: are two catalogs the same; where does a name stand? -/
namespace Go.Proofs.YtjdnhdcaifogmaaGreatDoor
open Go.RowKit

set_option linter.unusedSimpArgs false in
set_option maxRecDepth 100000 in
set_option maxHeartbeats 1600000 in
theorem sameCatalog_any (w : World) (va vb : Value) (ps qs : List Nc) (ha : CatN w va ps) (hb : CatN w vb qs) (hl : ps.length ≤ 1000) (hg : ∀ p ∈ ps, p.x.gens.length ≤ 1000 ∧ ∀ g ∈ p.x.gens, g.length ≤ 1000000) (r : Bool) (hr : r = true ↔ ps.map (·.x) = qs.map (·.x)) :
  Calls Tryz.prog 12 #[va, vb] w fun e w' => e = .returned (.bool r) ∧ Below w.heap.size w w' := by
 have HA := hide ha; have HB := hide hb; have HG := hide hg
 obtain ⟨ao, acap, rfl, -⟩ := id ha
 obtain ⟨bo, bcap, rfl, -⟩ := id hb
 clear ha hb hg
 by_cases h3 : ps.length = qs.length
 ·have g3 : ((ps.length : Int) != (qs.length : Int)) = false := by rw [bne_eq_false_iff_eq]; omega
  have HL := hide h3; have HR := hide hr
  clear h3 hr
  go_enter Tryz.func12, Tryz.ntmps12
  go_wp2
  go_loopw [5] (fun i wr => ∃ k : Nat, k ≤ ps.length ∧ i = .int .i64 k ∧ Hid (∀ j (h : j < ps.length) (h' : j < qs.length), j < k → ps[j].x = qs[j].x) ∧ Hid (Below w.heap.size w wr)) (fun i _ => ps.length - (intOf i).toNat)
  case atStart => exact ⟨0, Nat.zero_le _, rfl, hide (fun j _ _ hj => absurd hj (by omega)), hide (Below.refl _ _)⟩
  case round =>
   obtain ⟨k, hk, rfl, HE, HBE⟩ := hrel
   by_cases hkl : k < ps.length
   ·have hkh : k < qs.length := by have := HL.out; omega
    obtain ⟨ab, aoff, acap', e⟩ := HA.out.form (by omega)
    simp only [Value.slice.injEq, true_and] at e
    obtain ⟨rfl, rfl⟩ := e
    obtain ⟨bb, boff, bcap', e⟩ := HB.out.form (by omega)
    simp only [Value.slice.injEq, true_and] at e
    obtain ⟨rfl, rfl⟩ := e
    obtain ⟨hlt, c0, c1, c2, hi⟩ := (HA.out.below HBE.out).at k hkl
    obtain ⟨hlt', d0, d1, d2, hi'⟩ := (HB.out.below HBE.out).at k hkh
    have HI := hide hi; have HI' := hide hi'
    obtain ⟨hg1, hg2⟩ := HG.out ps[k] (List.getElem_mem hkl)
    have HG1 := hide hg1; have HG2 := hide hg2
    have HNE : Hid (ps[k].x ≠ qs[k].x → r = false) := fun h => by
     cases hr : r with
     | false => rfl
     | true =>
      have e := HR.out.1 hr
      have : (ps.map (·.x))[k]'(by rw [List.length_map]; exact hkl) = (qs.map (·.x))[k]'(by rw [List.length_map]; exact hkh) := by simp only [e]
      rw [List.getElem_map, List.getElem_map] at this
      exact absurd this h
    have HE' : Hid (ps[k].x = qs[k].x → ∀ j (h : j < ps.length) (h' : j < qs.length), j < k + 1 → ps[j].x = qs[j].x) := fun h j h1 h2 hj => by
     by_cases e : j < k
     ·exact HE.out j h1 h2 e
     ·obtain rfl : j = k := by omega
      exact h
    clear hi hi' hg1 hg2 HE
    generalize ps[k] = p at *
    generalize qs[k] = q at *
    obtain ⟨s, hs⟩ : ∃ s : Bool, (s = true ↔ p.x = q.x) := ⟨@decide (p.x = q.x) (Classical.propDecidable _), @decide_eq_true_iff _ (Classical.propDecidable _)⟩
    have HS := hide hs
    obtain ⟨⟨nm, n, gs⟩, po, pl, pc⟩ := p
    obtain ⟨⟨mm, m, gs'⟩, qo, ql, qc⟩ := q
    dsimp only at c0 c1 c2 d0 d1 d2
    clear hs
    go_wp2_with fail
    go_region_held3 (fun w' => w'.cell? ⟨ab, aoff + k * 3, none⟩ = some (.string nm) ∧ w'.cell? ⟨ab, aoff + k * 3 + 1, none⟩ = some (.int .i64 n) ∧ w'.cell? ⟨ab, aoff + k * 3 + 2, none⟩ = some (.slice po pl pc) ∧ w'.cell? ⟨bb, boff + k * 3, none⟩ = some (.string mm) ∧ w'.cell? ⟨bb, boff + k * 3 + 1, none⟩ = some (.int .i64 m) ∧ w'.cell? ⟨bb, boff + k * 3 + 2, none⟩ = some (.slice qo ql qc)) (go_keep)
     (first
      | (go_at_call 29; refine (sameNamed_any _ ⟨⟨nm, n, gs⟩, po, pl, pc⟩ ⟨⟨mm, m, gs'⟩, qo, ql, qc⟩ (HI.out.below (Below.refl _ _).drew) (HI'.out.below (Below.refl _ _).drew) HG1.out HG2.out s HS.out).mono ?_; rintro e w3 ⟨rfl, hb3'⟩; have hb3 : Below wr.heap.size wr w3 := (Below.refl _ _).drew.trans (hb3'.mono (by simp)); have HB3 := hide (HBE.out.trans (hb3.mono HBE.out.size)); have e0 := (hb3.cell (p := ⟨ab, aoff + k * 3, none⟩) hlt).trans c0; have e1 := (hb3.cell (p := ⟨ab, aoff + k * 3 + 1, none⟩) hlt).trans c1; have e2 := (hb3.cell (p := ⟨ab, aoff + k * 3 + 2, none⟩) hlt).trans c2; have f0 := (hb3.cell (p := ⟨bb, boff + k * 3, none⟩) hlt').trans d0; have f1 := (hb3.cell (p := ⟨bb, boff + k * 3 + 1, none⟩) hlt').trans d1; have f2 := (hb3.cell (p := ⟨bb, boff + k * 3 + 2, none⟩) hlt').trans d2; clear hb3 hb3'))
    clear c0 c1 c2 d0 d1 d2 e0 e1 e2 f0 f1 f2 HI HI' HG1 HG2 HBE
    cases s with
    | true =>
     have HE2 := hide (HE'.out (HS.out.1 rfl))
     go_wp2
     go_roundw
     case rel => exact ⟨k + 1, by omega, by go_num, HE2, HB3⟩
     case measure => simp [intOf]; omega
    | false =>
     obtain rfl := HNE.out (fun h => by have := HS.out.2 h; cases this)
     go_wp2
     go_ret
     exact ⟨rfl, HB3.out⟩
   ·obtain rfl : k = ps.length := by omega
    obtain rfl : true = r := (HR.out.2 (by
     apply List.ext_getElem (by rw [List.length_map, List.length_map]; exact HL.out)
     intro j h1 h2
     rw [List.length_map] at h1 h2
     rw [List.getElem_map, List.getElem_map]
     exact HE.out j h1 h2 h1)).symm
    go_wp2
    go_ret
    exact ⟨rfl, HBE.out⟩
 ·have g3 : ((ps.length : Int) != (qs.length : Int)) = true := by rw [bne_iff_ne]; omega
  obtain rfl : false = r := by
   cases h : r with
   | false => rfl
   | true =>
    have := congrArg List.length (hr.1 h)
    rw [List.length_map, List.length_map] at this
    exact absurd this h3
  clear h3 hr
  go_enter Tryz.func12, Tryz.ntmps12
  go_wp2
  go_ret
  exact ⟨rfl, Below.refl _ _⟩

def atL (cs : List Nmd) (s : ByteArray) : Int := if hasL cs s then (cs.findIdx (fun x => decide (x.name = s)) : Int) else -1

set_option linter.unusedSimpArgs false in
set_option maxRecDepth 100000 in
set_option maxHeartbeats 1600000 in
theorem at_any (w : World) (v : Value) (qs : List Nc) (s : ByteArray) (h : CatN w v qs) (hq : qs.length ≤ 1000) :
  Calls Tryz.prog 35 #[v, .string s] w fun e w' => e = .returned (.int .i64 (atL (qs.map (·.x)) s)) ∧ w' = w := by
 have HQ := hide h
 obtain ⟨ao, cap, rfl, -⟩ := id h
 clear h
 generalize hr : atL (qs.map (·.x)) s = r
 have HR := hide hr
 clear hr
 go_enter Tryz.func35, Tryz.ntmps35
 go_wp2
 go_loopw [5] (fun i wr => ∃ k : Nat, k ≤ qs.length ∧ i = .int .i64 k ∧ Hid (∀ j (h : j < qs.length), j < k → qs[j].x.name ≠ s) ∧ wr = w) (fun i _ => qs.length - (intOf i).toNat)
 case atStart => exact ⟨0, Nat.zero_le _, rfl, hide (fun j _ hj => absurd hj (by omega)), rfl⟩
 case round =>
  obtain ⟨k, hk, rfl, HN, hw⟩ := hrel
  subst wr
  by_cases hkl : k < qs.length
  ·obtain ⟨b, off, cap', e⟩ := HQ.out.form (by omega)
   simp only [Value.slice.injEq, true_and] at e
   obtain ⟨rfl, rfl⟩ := e
   obtain ⟨hlt, c0, -, -, -⟩ := HQ.out.at k hkl
   have hbe := toList_beq qs[k].x.name s
   have HY : Hid (qs[k].x.name = s → r = (k : Int)) := fun h => by
    rw [← HR.out]
    unfold atL
    have hm : hasL (qs.map (·.x)) s = true := by
     unfold hasL
     rw [List.any_eq_true]
     exact ⟨qs[k].x, List.mem_map.2 ⟨_, List.getElem_mem hkl, rfl⟩, by simpa using h⟩
    rw [if_pos hm]
    have hlt : (qs.map (·.x)).findIdx (fun x => decide (x.name = s)) < (qs.map (·.x)).length := List.findIdx_lt_length_of_exists ⟨qs[k].x, List.mem_map.2 ⟨_, List.getElem_mem hkl, rfl⟩, by simpa using h⟩
    have : (qs.map (·.x)).findIdx (fun x => decide (x.name = s)) = k := by
     apply Nat.le_antisymm
     ·rcases Nat.lt_or_ge k ((qs.map (·.x)).findIdx (fun x => decide (x.name = s))) with h1 | h1
      ·have := List.not_of_lt_findIdx h1
       rw [List.getElem_map] at this
       simp [h] at this
      ·exact h1
     ·rcases Nat.lt_or_ge ((qs.map (·.x)).findIdx (fun x => decide (x.name = s))) k with h1 | h1
      ·have h2 := List.findIdx_getElem (w := hlt)
       rw [List.getElem_map] at h2
       rw [List.length_map] at hlt
       exact absurd (by simpa using h2) (HN.out _ hlt h1)
      ·exact h1
    rw [this]
   have HN' : Hid (qs[k].x.name ≠ s → ∀ j (h : j < qs.length), j < k + 1 → qs[j].x.name ≠ s) := fun h j hj hjk => by
    by_cases e : j < k
    ·exact HN.out j hj e
    ·obtain rfl : j = k := by omega
     exact h
   generalize qs[k].x.name = nm at *
   by_cases he : nm = s
   ·rw [decide_eq_true he] at hbe
    obtain rfl := HY.out he
    clear he
    go_wp2
    go_ret
    exact ⟨rfl, rfl⟩
   ·rw [decide_eq_false he] at hbe
    have HN2 := hide (HN'.out he)
    clear he
    go_wp2
    go_roundw
    case rel => exact ⟨k + 1, by omega, by go_num, HN2, by first | rfl | trivial⟩
    case measure => simp [intOf]; omega
  ·obtain rfl : k = qs.length := by omega
   obtain rfl : -1 = r := by
    rw [← HR.out]
    unfold atL
    rw [if_neg]
    intro h
    unfold hasL at h
    rw [List.any_eq_true] at h
    obtain ⟨x, hx, e⟩ := h
    obtain ⟨q, hq, rfl⟩ := List.mem_map.1 hx
    obtain ⟨i, hi, rfl⟩ := List.getElem_of_mem hq
    exact HN.out i hi hi (by simpa using e)
   go_wp2
   go_ret
   exact ⟨rfl, rfl⟩

end Go.Proofs.YtjdnhdcaifogmaaGreatDoor

/- Lists that grow by one. -/
namespace Go.Proofs.YtjdnhdcaifogmaaGreatDoor
open Go.RowKit

theorem gens_snoc (W : World) (base : Nat) (hbase : base ≤ W.heap.size) (v : Value) (n : Nat) (xs : List Value) (hown : W.ownsRow base 44 1 v n xs) (o : Option Addr) (l c : Nat) (hn : n ≤ 1000) :
  ∃ o' c' W', (Builtin.append_ #[64, 64] 64 #[v, .slice (some ⟨W.heap.size, 0, none⟩) 1 1]).run Tryz.prog (W.alloc (.cells #[.slice o l c] 44)) = .ok (.slice o' (n + 1) c') W' ∧ W'.ownsRow base 44 1 (.slice o' (n + 1) c') (n + 1) (xs ++ [.slice o l c]) ∧ Below base W W' := by
 obtain ⟨j0, hj, hy0, hy1, hy2⟩ := info_got Tryz.infoIntsB
 exact own_snoc W base hbase _ _ _ j0 _ 1 24 (by kernel_rfl) hj hy0 hy1 hy2 rfl (by decide) v n xs hown #[.slice o l c] _ rfl (fun y hy => by
  rw [List.mem_singleton] at hy
  rw [hy]; rfl) (by unfold maxLen; omega) (by omega)

theorem BoxT.laterC {W W' : World} {B C : Nat} {u0 u1 u2 : Value} (h : BoxT W B u0 u1 u2) (hb : Below C W W') (hC : B < C) : BoxT W' B u0 u1 u2 :=
 ⟨⟨(hb.cell (p := ⟨B, 0, none⟩) hC).trans h.1.1, (hb.cell (p := ⟨B, 1, none⟩) hC).trans h.1.2.1, (hb.cell (p := ⟨B, 2, none⟩) hC).trans h.1.2.2.1, Nat.lt_of_lt_of_le h.1.2.2.2 hb.size⟩, fun k => (hb.frozen (p := ⟨B, k, none⟩) hC).trans (h.2 k)⟩

structure BackI (W8 wr : World) (ps : List Gc) (m : Nat) (nm : ByteArray) (N : Int) (vo : Option Addr) (vc : Nat) : Prop where
 box : BoxT wr W8.heap.size (.string nm) (.int .i64 N) (.slice vo m vc)
 own : wr.ownsRow (W8.heap.size + 1) 44 1 (.slice vo m vc) m ((ps.reverse.take m).map (·.1))
 below : Below W8.heap.size W8 wr

theorem BackI.start (W8 : World) (ps : List Gc) (nm : ByteArray) (N : Int) (t : TypeId) : BackI W8 (W8.alloc (.cells #[.string nm, .int .i64 N, .slice none 0 0] t)) ps 0 nm N none 0 :=
 ⟨BoxT.new _ _ _ _ _, by rw [List.take_zero]; exact World.ownsRow_nil _ _ _ _, alloc_below _ _⟩

theorem BackI.step {W8 wr W' : World} {ps : List Gc} {u' : Gc} {m : Nat} {nm : ByteArray} {N : Int} {vo : Option Addr} {vc : Nat} (h : BackI W8 wr ps m nm N vo vc) (hm : m < ps.length) {o' : Option Addr} {c' : Nat} {u : Value} (hu : ps.reverse[m]? = some u') (hu1 : u'.1 = u)
  (hown : W'.ownsRow (W8.heap.size + 1) 44 1 (.slice o' (m + 1) c') (m + 1) ((ps.reverse.take m).map (·.1) ++ [u])) (hb : Below (W8.heap.size + 1) wr W') : BackI W8 (W'.setCell ⟨W8.heap.size, 2, none⟩ (.slice o' (m + 1) c')) ps (m + 1) nm N o' c' where
 box := (h.box.laterC hb (Nat.lt_succ_self _)).set2 _
 own := by
  have hl : m < ps.reverse.length := by rw [List.length_reverse]; exact hm
  have e : ps.reverse[m] = u' := by rw [List.getElem?_eq_getElem hl] at hu; exact Option.some.inj hu
  rw [List.take_succ_eq_append_getElem hl, List.map_append, e]
  show World.ownsRow _ _ _ _ _ _ (_ ++ [u'.1])
  rw [hu1]
  exact ownsRow_setCell_below hown (a := ⟨W8.heap.size, 2, none⟩) (Nat.lt_succ_self W8.heap.size) _
 below := (h.below.trans (hb.mono (Nat.le_succ _))).setCell (p := ⟨W8.heap.size, 2, none⟩) (Nat.le_refl _) _

theorem BackI.rows {W8 wr : World} {ps : List Gc} {nm : ByteArray} {N : Int} {vo : Option Addr} {vc : Nat} (h : BackI W8 wr ps ps.length nm N vo vc) (hin : ∀ g ∈ ps, GcIn W8 g) {gs : List (List Int)} (hps : ps.map (·.2) = gs) : NcIn wr ⟨⟨nm, N, gs.reverse⟩, vo, ps.length, vc⟩ := by
 have ho := owns_seq h.own
 have hl : ps.reverse.take ps.length = ps.reverse := List.take_of_length_le (by rw [List.length_reverse]; exact Nat.le_refl _)
 rw [hl] at ho
 have h2 := rowsS_of_seq (ps := ps.reverse) (v := .slice vo ps.length vc) (W := wr) (by rw [List.length_reverse]; exact ho) (fun g hg => (hin g (List.mem_reverse.1 hg)).below h.below (Nat.le_refl _))
 rw [List.map_reverse, hps] at h2
 exact h2

theorem BackI.rows' {W8 wr : World} {ps : List Gc} {m : Nat} {nm : ByteArray} {N : Int} {vo : Option Addr} {vc : Nat} (h : BackI W8 wr ps m nm N vo vc) (hm : ps.length = m) (hin : ∀ g ∈ ps, GcIn W8 g) {gs : List (List Int)} (hps : ps.map (·.2) = gs) : NcIn wr ⟨⟨nm, N, gs.reverse⟩, vo, m, vc⟩ := by
 subst hm
 exact h.rows hin hps

end Go.Proofs.YtjdnhdcaifogmaaGreatDoor

/- The reference's Apply: lists that grow by one; what it answers. -/
namespace Go.Proofs.YtjdnhdcaifogmaaGreatDoor
open Go.RowKit

theorem cat_snoc (W : World) (base : Nat) (hbase : base ≤ W.heap.size) (v : Value) (n : Nat) (xs : List Value) (hown : W.ownsRow base 66 3 v n xs) (q : Nc) (hn : n ≤ 1000) :
  ∃ o c W', (Builtin.append_ #[28, 28] 28 #[v, .slice (some ⟨W.heap.size, 0, none⟩) 1 1]).run Tryz.prog (W.alloc (.cells #[.string q.x.name, .int .i64 q.x.n, .slice q.o q.l q.c] 66)) = .ok (.slice o (n + 1) c) W' ∧ W'.ownsRow base 66 3 (.slice o (n + 1) c) (n + 1) (xs ++ q.cells) ∧ Below base W W' := by
 obtain ⟨j0, hj, hy0, hy1, hy2⟩ := info_got Tryz.infoNamed
 exact own_snoc W base hbase _ _ _ j0 _ 3 48 (by kernel_rfl) hj hy0 hy1 hy2 rfl (by decide) v n xs hown #[.string q.x.name, .int .i64 q.x.n, .slice q.o q.l q.c] _ rfl (fun y hy => by
  simp only [List.mem_cons, List.not_mem_nil, or_false] at hy
  rcases hy with rfl | rfl | rfl <;> rfl) (by unfold maxLen; omega) (by omega)

def RefRes (w : World) (r : Nat × List Nmd) (e : Ending) (w' : World) : Prop :=
 ((r.1 ≠ 0 ∧ e = .returned (.tuple #[.slice none 0 0, .int .i64 (r.1 : Int)])) ∨ (r.1 = 0 ∧ ∃ u qs, e = .returned (.tuple #[u, .int .i64 0]) ∧ qs.map (·.x) = r.2 ∧ CatN w' u qs)) ∧ Below w.heap.size w w'

theorem refRes_err {w w' : World} {r : Nat × List Nmd} (c : Nat) (l : List Nmd) (hr : r = (c, l)) (hc : c ≠ 0) (hb : Below w.heap.size w w') : RefRes w r (.returned (.tuple #[.slice none 0 0, .int .i64 (c : Int)])) w' := by
 subst hr
 exact ⟨.inl ⟨hc, rfl⟩, hb⟩

theorem atL_place {cs : List Nmd} (hc : cs.Pairwise (fun x y => nlt x.name y.name = true)) {s : ByteArray} (h : hasL cs s = true) : atL cs s = (placeL cs s : Int) := by
 unfold atL
 rw [if_pos h]
 obtain ⟨h1, h2⟩ := (hasL_iff hc).1 h
 congr 1
 apply Nat.le_antisymm
 ·rcases Nat.lt_or_ge (placeL cs s) (cs.findIdx (fun x => decide (x.name = s))) with h3 | h3
  ·have := List.not_of_lt_findIdx h3
   simp [h2] at this
  ·exact h3
 ·rcases Nat.lt_or_ge (cs.findIdx (fun x => decide (x.name = s))) (placeL cs s) with h3 | h3
  ·obtain ⟨h4, h5⟩ := placeL_before h3
   have h6 := List.findIdx_getElem (p := fun x : Nmd => decide (x.name = s)) (w := h4)
   rw [of_decide_eq_true h6, nlt_irr] at h5
   cases h5
  ·exact h3

theorem atL_none {cs : List Nmd} {s : ByteArray} (h : hasL cs s = false) : atL cs s = -1 := by
 unfold atL; rw [if_neg (by rw [h]; decide)]

theorem use_iff (k n : Int) (l : Nat) : useOk k n l = true ↔ ¬ (k < 1) ∧ ¬ (4 < k) ∧ ¬ (k ≠ 1 ∧ n ≠ 0) ∧ ¬ (k < 3 ∧ 0 < l) := by
 unfold useOk
 simp only [Bool.or_eq_true, decide_eq_true_eq]
 omega

end Go.Proofs.YtjdnhdcaifogmaaGreatDoor

/- A text's rest, where no numbers are. -/
namespace Go.Proofs.YtjdnhdcaifogmaaGreatDoor
open Go.RowKit

def Code.tail : Code → Code
 | .seq _ b => b
 | c => c

end Go.Proofs.YtjdnhdcaifogmaaGreatDoor

/- The reference's Apply, at its end: the lattice has these generators. -/
namespace Go.Proofs.YtjdnhdcaifogmaaGreatDoor
open Go.RowKit

theorem List.set_same {α : Type} {l : List α} {i : Nat} {x : α} (h : l[i]? = some x) : l.set i x = l := by
 obtain ⟨hi, e⟩ := List.getElem?_eq_some_iff.1 h
 rw [← e]; exact List.set_getElem_self hi

set_option linter.unusedSimpArgs false in
set_option maxRecDepth 100000 in
set_option maxHeartbeats 3200000 in
theorem applyR_F (w W : World) (ao : Option Addr) (cap : Nat) (qs : List Nc) (r : Nat × List Nmd) (hbe : Below w.heap.size w W) (hcat : CatN w (.slice ao qs.length cap) qs) (P X : Nat) (go : Option Addr) (gl gc : Nat) (gs : List (List Int)) (nm : ByteArray) (nn : Int) (xo : Option Addr) (xl xc : Nat) (hP : P < qs.length) (hq8 : qs.length ≤ 100) (hnm : qs[P].x.name = nm) (hnn : qs[P].x.n = nn) (hX : w.heap.size ≤ X) (hb : BoxT W X (.string nm) (.int .i64 nn) (.slice xo xl xc)) (hG : RowsS (W.setCell ⟨X, 2, none⟩ (.slice go gl gc)) (.slice go gl gc) gs) (hr : r = (0, (qs.map (·.x)).set P ⟨nm, nn, gs⟩)) {sl1 sl2 sl3 sl4 sl5 sl6 sl8 sl9 sl10 sl13 sl15 sl16 sl17 sl18 sl19 sl20 sl21 sl22 sl23 sl24 sl25 sl26 sl27 sl28 sl29 sl30 sl31 sl32 sl33 sl34 sl35 sl36 sl37 sl38 sl39 sl40 sl41 sl42 sl43 sl44 sl45 sl46 sl47 sl48 sl49 sl50 sl51 sl52 sl53 sl54 sl55 sl56 sl57 sl58 sl59 sl60 sl61 sl62 sl63 sl64 sl65 sl66 sl67 sl68 sl69 sl70 sl71 sl72 sl73 sl74 sl75 sl76 sl77 sl78 sl79 sl80 sl81 sl82 sl83 sl84 sl85 sl86 sl87 sl88 sl89 sl90 sl91 sl92 sl93 sl94 sl95 sl96 sl97 sl98 sl99 sl100 sl101 sl102 sl103 sl104 sl105 sl106 sl107 sl108 sl109 sl110 sl111 sl112 sl113 sl114 sl115 sl116 sl117 sl118 sl119 sl120 sl121 sl122 sl123 sl124 sl125 sl126 sl127 sl128 sl129 sl130 sl131 sl132 sl133 sl134 sl135 sl136 sl137 sl138 sl139 sl140 sl141 sl142 sl143 sl144 sl145 sl146 sl147 sl148 sl149 sl150 sl151 sl152 sl153 sl154 sl155 sl156 sl157 sl158 sl159 sl160 sl161 sl162 sl163 sl164 sl165 sl166 sl167 sl168 sl169 sl170 sl171 sl172 sl173 sl174 sl175 sl176 sl177 sl178 sl179 sl180 sl181 sl182 sl183 sl184 sl185 sl186 sl187 sl188 sl189 sl190 sl191 sl192 sl193 sl194 sl195 sl196 sl197 sl198 sl199 sl200 sl201 sl202 sl203 sl204 sl205 sl206 sl207 : Value} :
  (Code.tail (Code.tail (Code.tail (Code.tail (Code.tail (Code.tail (Code.tail (Code.tail (Code.tail (Code.tail (Code.tail (Code.tail (Code.tail (Code.tail (Code.tail ((Tryz.f19.body).getD .skip)))))))))))))))).wp Tryz.prog (bodyPost Tryz.prog Tryz.f19 (fun e w' => RefRes w r e w')) ⟨#[(.slice ao qs.length cap), sl1, sl2, sl3, sl4, sl5, sl6, (.int .i64 (P : Int)), sl8, sl9, sl10, (.slice none 0 0), (.pointer (some ⟨X, 0, none⟩)), sl13, (.slice go gl gc), sl15, sl16, sl17, sl18, sl19, sl20, sl21, sl22, sl23, sl24, sl25, sl26, sl27, sl28, sl29, sl30, sl31, sl32, sl33, sl34, sl35, sl36, sl37, sl38, sl39, sl40, sl41, sl42, sl43, sl44, sl45, sl46, sl47, sl48, sl49, sl50, sl51, sl52, sl53, sl54, sl55, sl56, sl57, sl58, sl59, sl60, sl61, sl62, sl63, sl64, sl65, sl66, sl67, sl68, sl69, sl70, sl71, sl72, sl73, sl74, sl75, sl76, sl77, sl78, sl79, sl80, sl81, sl82, sl83, sl84, sl85, sl86, sl87, sl88, sl89, sl90, sl91, sl92, sl93, sl94, sl95, sl96, sl97, sl98, sl99, sl100, sl101, sl102, sl103, sl104, sl105, sl106, sl107, sl108, sl109, sl110, sl111, sl112, sl113, sl114, sl115, sl116, sl117, sl118, sl119, sl120, sl121, sl122, sl123, sl124, sl125, sl126, sl127, sl128, sl129, sl130, sl131, sl132, sl133, sl134, sl135, sl136, sl137, sl138, sl139, sl140, sl141, sl142, sl143, sl144, sl145, sl146, sl147, sl148, sl149, sl150, sl151, sl152, sl153, sl154, sl155, sl156, sl157, sl158, sl159, sl160, sl161, sl162, sl163, sl164, sl165, sl166, sl167, sl168, sl169, sl170, sl171, sl172, sl173, sl174, sl175, sl176, sl177, sl178, sl179, sl180, sl181, sl182, sl183, sl184, sl185, sl186, sl187, sl188, sl189, sl190, sl191, sl192, sl193, sl194, sl195, sl196, sl197, sl198, sl199, sl200, sl201, sl202, sl203, sl204, sl205, sl206, sl207], []⟩ W := by
 simp only [Code.tail, Tryz.f19, Option.getD_some]
 have hba : Below w.heap.size w (W.setCell ⟨X, 2, none⟩ (.slice go gl gc)) := hbe.setCell (p := ⟨X, 2, none⟩) hX _
 have HBXa := hide (hb.set2 (.slice go gl gc))
 obtain ⟨⟨b0, b1, b2, -⟩, b3⟩ := hb
 have f2 := b3 2
 have HCS := hide ((catN_seq hcat).below hba (Nat.le_refl _)); have HCI := hide hcat.ins; have HG := hide hG; have HR := hide hr; have HBa := hide hba
 obtain ⟨j0, hj, hy0, hy1, hy2⟩ := info_got Tryz.infoNamed
 obtain ⟨go1, gc1, W1, hrun, hown, hb1⟩ := seq_more (P := Tryz.prog) (W.setCell ⟨X, 2, none⟩ (.slice go gl gc)) (W.setCell ⟨X, 2, none⟩ (.slice go gl gc)) (W.setCell ⟨X, 2, none⟩ (.slice go gl gc)).heap.size (Nat.le_refl _) (Below.refl _ _) (Nat.le_refl _) 28 28 66 j0 (.agg #[.string ⟨#[]⟩, .int .i64 0, .slice none 0 0]) 3 48 (by kernel_rfl) hj hy0 hy1 hy2 rfl (by decide) (.slice none 0 0) 0 [] (World.ownsRow_nil _ _ _ _) (.slice ao qs.length cap) qs.length (qs.flatMap Nc.cells) (nccells_len qs) HCS.out (nccells_one qs) (by unfold maxLen; omega) (by omega)
 rw [Nat.zero_add] at hrun hown
 rw [List.nil_append] at hown
 obtain ⟨g, cp, e, hge, hcell⟩ := own_at hown (by omega)
 simp only [Value.slice.injEq, true_and] at e
 obtain ⟨rfl, rfl⟩ := e
 have k0 := hcell (P * 3) _ ((by have := nccells_at qs P hP 0 (by omega); rwa [Nat.add_zero] at this : (qs.flatMap Nc.cells)[P * 3]? = qs[P].cells[0]?).trans rfl)
 have k1 := hcell (P * 3 + 1) _ ((nccells_at qs P hP 1 (by omega)).trans rfl)
 have k2 := hcell (P * 3 + 2) _ ((nccells_at qs P hP 2 (by omega)).trans rfl)
 have z0 := own_free hown (P * 3); have z1 := own_free hown (P * 3 + 1); have z2 := own_free hown (P * 3 + 2)
 obtain ⟨⟨x0, x1, x2, -⟩, -⟩ := HBXa.out.later hb1
 have hne : g ≠ X := by
  have h1 := HBXa.out.1.2.2.2
  omega
 have ho3 := own_set (own_set (own_set hown (P * 3) (.string nm)) (P * 3 + 1) (.int .i64 nn)) (P * 3 + 2) (.slice go gl gc)
 have e0 : ((qs.flatMap Nc.cells).set (P * 3) (.string nm)) = qs.flatMap Nc.cells := List.set_same (by rw [(by have := nccells_at qs P hP 0 (by omega); rwa [Nat.add_zero] at this : (qs.flatMap Nc.cells)[P * 3]? = qs[P].cells[0]?), ← hnm]; rfl)
 have e1 : ((qs.flatMap Nc.cells).set (P * 3 + 1) (.int .i64 nn)) = qs.flatMap Nc.cells := List.set_same (by rw [nccells_at qs P hP 1 (by omega), ← hnn]; rfl)
 rw [e0, e1, ← nccells_set qs P hP (⟨⟨nm, nn, gs⟩, go, gl, gc⟩ : Nc) hnm.symm hnn.symm] at ho3
 have HRUN := hide hrun
 have hbf := ((hb1.setCell (p := ⟨g, P * 3, none⟩) hge (.string nm)).setCell (p := ⟨g, P * 3 + 1, none⟩) hge (.int .i64 nn)).setCell (p := ⟨g, P * 3 + 2, none⟩) hge (.slice go gl gc)
 have HBF := hide (HBa.out.trans (hbf.mono HBa.out.size))
 have hl : (qs.set P (⟨⟨nm, nn, gs⟩, go, gl, gc⟩ : Nc)).length = qs.length := List.length_set
 have HCAT := hide (catN_of_seq (v := .slice (some ⟨g, 0, none⟩) qs.length gc1) (qs := qs.set P (⟨⟨nm, nn, gs⟩, go, gl, gc⟩ : Nc)) (by rw [hl]; exact owns_seq ho3) (fun q hq => by
  rcases List.mem_or_eq_of_mem_set hq with h | rfl
  ·exact (HCI.out q h).below HBF.out
  ·exact HG.out.below hbf))
 have HQ : Hid ((qs.set P (⟨⟨nm, nn, gs⟩, go, gl, gc⟩ : Nc)).map (·.x) = (qs.map (·.x)).set P ⟨nm, nn, gs⟩) := List.map_set
 clear hrun hown hcell ho3 e0 e1 hb1 hbf hj hy0 hy1 hy2 HCS HCI HG HBa hr hba hG b3 HBXa hnm hnn hl hcat
 go_wp2_with (at_builtin; refine Lib.wpList_append_run _ rfl _ _ _ _ rfl _ _ rfl rfl _ _ HRUN.out ?_)
 go_wp2
 go_ret2
 exact ⟨.inr ⟨by rw [HR.out], _, _, rfl, by rw [HR.out]; exact HQ.out, HCAT.out⟩, HBF.out⟩

end Go.Proofs.YtjdnhdcaifogmaaGreatDoor
