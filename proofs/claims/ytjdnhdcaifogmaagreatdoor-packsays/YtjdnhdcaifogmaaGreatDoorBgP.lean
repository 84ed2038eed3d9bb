/- bag: has an operation what its kind has a use for, and nothing else? -/
import Derived.Test.YtjdnhdcaifogmaaGreatDoorBgM
import Derived.Laws.MakeOwn
import Derived.Laws.OwnMore

namespace Go.Proofs.YtjdnhdcaifogmaaGreatDoor
open Go.RowKit

def useOk (k n : Int) (l : Nat) : Bool := decide (k = 1 ∧ l = 0) || decide (k = 2 ∧ n = 0 ∧ l = 0) || decide ((k = 3 ∨ k = 4) ∧ n = 0)

theorem opOk_use (o : OpV) : opOk o = (nmOk o.name && useOk o.kind o.n o.v.length) := rfl

set_option linter.unusedSimpArgs false in
set_option maxRecDepth 100000 in
set_option maxHeartbeats 1600000 in
theorem shaped_any (w : World) (o : OpV) (vo : Option Addr) (vc : Nat) :
  Calls Tryz.prog 37 #[.agg #[.int .i64 o.kind, .string o.name, .int .i64 o.n, .slice vo o.v.length vc]] w fun e w' => e = .returned (.bool (opOk o)) ∧ Below w.heap.size w w' := by
 have hf := FourV.new w (.int .i64 o.kind) (.string o.name) (.int .i64 o.n) (.slice vo o.v.length vc) 46
 have HB0 := hide (alloc_below w (.cells #[.int .i64 o.kind, .string o.name, .int .i64 o.n, .slice vo o.v.length vc] 46))
 obtain ⟨c0, c1, c2, c3, -⟩ := hf
 rw [opOk_use]
 cases hn : nmOk o.name with
 | false =>
  rw [Bool.false_and]
  go_enter Tryz.func37, Tryz.ntmps37
  go_wp2_with fail
  refine (name_any o.name _).mono ?_
  rintro e w1 ⟨rfl, rfl⟩
  rw [hn]
  go_wp2
  go_ret
  exact ⟨rfl, HB0.out⟩
 | true =>
  rw [Bool.true_and]
  generalize hk : o.kind = k at *
  generalize hN : o.n = n at *
  generalize hl : o.v.length = l at *
  clear hk hN hl
  have hn' : nmOk o.name = true := hn
  clear hn
  have hn := hn'
  clear hn'
  by_cases h1 : k = 1
  ·subst h1
   by_cases hl : l = 0
   ·subst hl
    have hu : useOk 1 n 0 = true := by simp [useOk]
    rw [hu]
    clear hu
    go_enter Tryz.func37, Tryz.ntmps37
    go_wp2_with fail
    refine (name_any o.name _).mono ?_
    rintro e w1 ⟨rfl, rfl⟩
    rw [hn]
    go_wp2
    go_ret
    exact ⟨rfl, HB0.out⟩
   ·have hu : useOk 1 n l = false := by simp [useOk, hl]
    have g0 : ((l : Int) == 0) = false := beq_eq_false_iff_ne.2 (by omega)
    rw [hu]
    clear hu hl
    go_enter Tryz.func37, Tryz.ntmps37
    go_wp2_with fail
    refine (name_any o.name _).mono ?_
    rintro e w1 ⟨rfl, rfl⟩
    rw [hn]
    go_wp2
    go_ret
    exact ⟨rfl, HB0.out⟩
  ·have e1 : (k == 1) = false := beq_eq_false_iff_ne.2 h1
   by_cases h2 : k = 2
   ·subst h2
    by_cases hz : n = 0
    ·subst hz
     by_cases hl : l = 0
     ·subst hl
      have hu : useOk 2 0 0 = true := by simp [useOk]
      rw [hu]
      clear hu
      go_enter Tryz.func37, Tryz.ntmps37
      go_wp2_with fail
      refine (name_any o.name _).mono ?_
      rintro e w1 ⟨rfl, rfl⟩
      rw [hn]
      go_wp2
      go_ret
      exact ⟨rfl, HB0.out⟩
     ·have hu : useOk 2 0 l = false := by simp [useOk, hl]
      have g0 : ((l : Int) == 0) = false := beq_eq_false_iff_ne.2 (by omega)
      rw [hu]
      clear hu hl
      go_enter Tryz.func37, Tryz.ntmps37
      go_wp2_with fail
      refine (name_any o.name _).mono ?_
      rintro e w1 ⟨rfl, rfl⟩
      rw [hn]
      go_wp2
      go_ret
      exact ⟨rfl, HB0.out⟩
    ·have hu : useOk 2 n l = false := by simp [useOk, hz]
     have g0 : (n == 0) = false := beq_eq_false_iff_ne.2 hz
     rw [hu]
     clear hu hz
     go_enter Tryz.func37, Tryz.ntmps37
     go_wp2_with fail
     refine (name_any o.name _).mono ?_
     rintro e w1 ⟨rfl, rfl⟩
     rw [hn]
     go_wp2
     go_ret
     exact ⟨rfl, HB0.out⟩
   ·have e2 : (k == 2) = false := beq_eq_false_iff_ne.2 h2
    by_cases h3 : k = 3
    ·subst h3
     by_cases hz : n = 0
     ·subst hz
      have hu : useOk 3 0 l = true := by simp [useOk]
      rw [hu]
      clear hu
      go_enter Tryz.func37, Tryz.ntmps37
      go_wp2_with fail
      refine (name_any o.name _).mono ?_
      rintro e w1 ⟨rfl, rfl⟩
      rw [hn]
      go_wp2
      go_ret
      exact ⟨rfl, HB0.out⟩
     ·have hu : useOk 3 n l = false := by simp [useOk, hz]
      have g0 : (n == 0) = false := beq_eq_false_iff_ne.2 hz
      rw [hu]
      clear hu hz
      go_enter Tryz.func37, Tryz.ntmps37
      go_wp2_with fail
      refine (name_any o.name _).mono ?_
      rintro e w1 ⟨rfl, rfl⟩
      rw [hn]
      go_wp2
      go_ret
      exact ⟨rfl, HB0.out⟩
    ·have e3 : (k == 3) = false := beq_eq_false_iff_ne.2 h3
     by_cases h4 : k = 4
     ·subst h4
      by_cases hz : n = 0
      ·subst hz
       have hu : useOk 4 0 l = true := by simp [useOk]
       rw [hu]
       clear hu
       go_enter Tryz.func37, Tryz.ntmps37
       go_wp2_with fail
       refine (name_any o.name _).mono ?_
       rintro e w1 ⟨rfl, rfl⟩
       rw [hn]
       go_wp2
       go_ret
       exact ⟨rfl, HB0.out⟩
      ·have hu : useOk 4 n l = false := by simp [useOk, hz]
       have g0 : (n == 0) = false := beq_eq_false_iff_ne.2 hz
       rw [hu]
       clear hu hz
       go_enter Tryz.func37, Tryz.ntmps37
       go_wp2_with fail
       refine (name_any o.name _).mono ?_
       rintro e w1 ⟨rfl, rfl⟩
       rw [hn]
       go_wp2
       go_ret
       exact ⟨rfl, HB0.out⟩
     ·have e4 : (k == 4) = false := beq_eq_false_iff_ne.2 h4
      have hu : useOk k n l = false := by simp [useOk, h1, h2, h3, h4]
      rw [hu]
      clear hu h1 h2 h3 h4
      go_enter Tryz.func37, Tryz.ntmps37
      go_wp2_with fail
      refine (name_any o.name _).mono ?_
      rintro e w1 ⟨rfl, rfl⟩
      rw [hn]
      go_wp2
      go_ret
      exact ⟨rfl, HB0.out⟩

end Go.Proofs.YtjdnhdcaifogmaaGreatDoor

/- bag: an operation is applied. -/
namespace Go.Proofs.YtjdnhdcaifogmaaGreatDoor
open Go.RowKit

theorem nonE_of_ok {qs : List Nc} (h : ∀ x ∈ qs.map (·.x), NmOk x) : NonE qs := fun q hq g hg => by
 have hx := h q.x (List.mem_map.2 ⟨q, hq, rfl⟩)
 have := (genF_ok.1 (hx.gens g hg)).1
 intro e
 rw [e] at this
 have := hx.n.1
 simp at *
 omega

theorem CatRes.form {w w' : World} {r : Nat × List Nmd} {e : Ending} (h : CatRes w r e w') : ∃ so sl sc ev, e = .returned (.tuple #[.agg #[.slice so sl sc], ev]) := by
 rcases h.1 with ⟨-, rfl⟩ | ⟨-, u, qs, rfl, -, u', rfl, ao, cap, rfl, -⟩
 ·exact ⟨_, _, _, _, rfl⟩
 ·exact ⟨_, _, _, _, rfl⟩

theorem CatRes.fwd {w W w' w2 : World} {r : Nat × List Nmd} {u ev x : Value} {B : Nat} (h : CatRes W r (.returned (.tuple #[u, ev])) w') (hok : r.1 = 0 → CatOk r.2) (hc : w'.cell? ⟨B, 0, none⟩ = some (.slice none 0 0)) (hb : Below w.heap.size w (w'.setCell ⟨B, 0, none⟩ x)) (hw : w2 = w'.setCell ⟨B, 0, none⟩ x := by rfl) : CatRes w r (.returned (.tuple #[u, ev])) w2 := by
 subst hw
 refine ⟨?_, hb⟩
 rcases h.1 with ⟨h1, h2⟩ | ⟨h1, u', qs, h2, h3, v, h4, h5⟩
 ·exact .inl ⟨h1, h2⟩
 ·refine .inr ⟨h1, u', qs, h2, h3, v, h4, h5.setOne (nonE_of_ok fun x hx => ?_) hc x⟩
  rw [h3] at hx
  exact (hok h1).all x hx

theorem three_vars (w : World) (u x : Value) (a0 a1 a2 a3 : Value) (s t y : TypeId) : One (((w.alloc (.cells #[u] s)).alloc (.cells #[a0, a1, a2, a3] t)).alloc (.cells #[x] y)) w.heap.size u ∧ FourV (((w.alloc (.cells #[u] s)).alloc (.cells #[a0, a1, a2, a3] t)).alloc (.cells #[x] y)) (w.heap.size + 1) a0 a1 a2 a3 ∧ One (((w.alloc (.cells #[u] s)).alloc (.cells #[a0, a1, a2, a3] t)).alloc (.cells #[x] y)) (w.heap.size + 1 + 1) x ∧ Below w.heap.size w (((w.alloc (.cells #[u] s)).alloc (.cells #[a0, a1, a2, a3] t)).alloc (.cells #[x] y)) := by
 have hb1 := alloc_below w (.cells #[u] s)
 have hb2 := alloc_below (w.alloc (.cells #[u] s)) (.cells #[a0, a1, a2, a3] t)
 have hb3 := alloc_below ((w.alloc (.cells #[u] s)).alloc (.cells #[a0, a1, a2, a3] t)) (.cells #[x] y)
 have e1 : (w.alloc (.cells #[u] s)).heap.size = w.heap.size + 1 := by simp
 have e2 : ((w.alloc (.cells #[u] s)).alloc (.cells #[a0, a1, a2, a3] t)).heap.size = w.heap.size + 1 + 1 := by simp
 have h1 := (One.new w u s).later (hb2.trans (hb3.mono hb2.size))
 have h2 := (FourV.new (w.alloc (.cells #[u] s)) a0 a1 a2 a3 t).later hb3
 have h3 := One.new ((w.alloc (.cells #[u] s)).alloc (.cells #[a0, a1, a2, a3] t)) x y
 rw [e1] at h2
 rw [e2] at h3
 exact ⟨h1, h2, h3, hb1.trans ((hb2.trans (hb3.mono hb2.size)).mono hb1.size)⟩

theorem applyC_shape {cs : List Nmd} {o : OpV} (h : opOk o = false) : applyC cs o = (3, []) := by unfold applyC; rw [if_pos h]

set_option linter.unusedSimpArgs false in
set_option maxRecDepth 100000 in
set_option maxHeartbeats 1600000 in
theorem apply_any (w : World) (v : Value) (qs : List Nc) (o : OpV) (vo : Option Addr) (vc : Nat) (h : CatV w v qs) (hok : CatOk (qs.map (·.x))) (hv : RowS w (.slice vo o.v.length vc) o.v) (hv1 : o.v.length ≤ 100) :
  Calls Tryz.prog 20 #[v, .agg #[.int .i64 o.kind, .string o.name, .int .i64 o.n, .slice vo o.v.length vc]] w fun e w' => CatRes w (applyC (qs.map (·.x)) o) e w' := by
 have HOKR := hide (applyC_ok hok o)
 have HNE := hide (nonE_of_ok hok.all)
 have HOK := hide hok
 have hq : qs.length ≤ 100 := by have := hok.few; rw [List.length_map] at this; omega
 obtain ⟨u, rfl, hu⟩ := h
 obtain ⟨ao, cap, rfl, hcap, -⟩ := id hu
 obtain ⟨x2, x3, x4, hbn⟩ := three_vars w (.slice ao qs.length cap) (.slice none 0 0) (.int .i64 o.kind) (.string o.name) (.int .i64 o.n) (.slice vo o.v.length vc) 27 46 27
 have HC0 := hide (hu.below hbn); have HB0 := hide hbn; have X20 := hide x2; have X30 := hide x3; have X40 := hide x4; have HV0 := hide (hv.below hbn (Nat.le_refl _))
 obtain ⟨q2, -, -⟩ := x2
 obtain ⟨o0, o1, o2, o3, -⟩ := x3
 obtain ⟨q4, q5, -⟩ := x4
 generalize hr : applyC (qs.map (·.x)) o = r at *
 have HAP : Hid (applyC (qs.map (·.x)) o = r) := hr
 clear hu hbn hok hv hr
 go_enter Tryz.func20, Tryz.ntmps20
 go_wp2_with fail
 generalize (((w.alloc (.cells #[.slice ao qs.length cap] 27)).alloc (.cells #[.int .i64 o.kind, .string o.name, .int .i64 o.n, .slice vo o.v.length vc] 46)).alloc (.cells #[.slice none 0 0] 27)) = W0 at *
 refine (shaped_any W0 o vo vc).mono ?_
 rintro e w1 ⟨rfl, hb1⟩
 have HC := hide (HC0.out.below hb1); have HBw := hide (HB0.out.trans (hb1.mono HB0.out.size)); have X2 := hide (X20.out.later hb1); have X3 := hide (X30.out.later hb1); have X4 := hide (X40.out.later hb1); have HV := hide (HV0.out.below hb1 (Nat.le_refl _))
 clear hb1 HC0 HB0 X20 X30 X40 HV0 q2 q4 q5 o0 o1 o2 o3
 obtain ⟨q2, -, -⟩ := X2.out
 obtain ⟨o0, o1, o2, o3, -⟩ := X3.out
 obtain ⟨q4, q5, -⟩ := X4.out
 cases hsh : opOk o with
 | false =>
  have HR : Hid (r = (3, [])) := HAP.out.symm.trans (applyC_shape hsh)
  clear hsh
  go_wp2
  exact bodyPost_ret (v := .tuple #[.agg #[.slice none 0 0], .iface 71 (.int .i64 3)]) (by simp [results, Tryz.results20, go_sem, q4]) rfl (catRes_err 3 [] HR.out (by decide) (by first | exact HBw.out | exact HBw.out.setCell (p := ⟨w.heap.size + 1 + 1, 0, none⟩) (by show w.heap.size ≤ w.heap.size + 1 + 1; omega) (.slice none 0 0)))
 | true =>
  have HA0 := HAP.out
  unfold applyC at HA0
  rw [if_neg (by rw [hsh]; decide)] at HA0
  by_cases hk1 : o.kind = 1
  ·rw [if_pos hk1] at HA0
   have HA := hide HA0
   have g1 : (o.kind == 1) = true := by rw [beq_iff_eq]; exact hk1
   have HK := hide hk1
   clear HA0 hk1 hsh
   go_wp2_with fail
   refine (create_any w1 _ qs o.name o.n ⟨_, rfl, HC.out⟩ hq HOK.out.rise r HA.out.symm).mono ?_
   rintro e w3 hres
   obtain ⟨so, sl, sc, ev, rfl⟩ := hres.form
   have Y4 := hide (X4.out.later hres.2); have HRES := hide hres; have HB3 := hide (HBw.out.trans (hres.2.mono HBw.out.size))
   obtain ⟨y4, y5, -⟩ := Y4.out
   clear hres q2 q4 q5 o0 o1 o2 o3
   have HB4 := hide (HB3.out.setCell (p := ⟨w.heap.size + 1 + 1, 0, none⟩) (by show w.heap.size ≤ w.heap.size + 1 + 1; omega) (.slice so sl sc))
   go_wp2
   exact bodyPost_ret (v := .tuple #[.agg #[.slice so sl sc], ev]) (by simp [results, Tryz.results20, go_sem, World.cell?_setCell_same _ _ _ y4]) rfl (HRES.out.fwd HOKR.out y4 HB4.out)
  rw [if_neg hk1] at HA0
  have g1 : (o.kind == 1) = false := beq_eq_false_iff_ne.2 hk1
  have HSH := hide hsh
  clear hsh
  go_wp2_with fail
  refine (place_any w1 _ qs o.name ⟨_, rfl, HC.out⟩ (by omega) HOK.out.rise).mono ?_
  rintro e w2 ⟨rfl, hb2⟩
  have HC2 := hide (HC.out.below hb2); have HBw2 := hide (HBw.out.trans (hb2.mono HBw.out.size)); have X22 := hide (X2.out.later hb2); have X32 := hide (X3.out.later hb2); have X42 := hide (X4.out.later hb2); have HV2 := hide (HV.out.below hb2 (Nat.le_refl _))
  clear hb2 HC HBw X2 X3 X4 HV q2 q4 q5 o0 o1 o2 o3
  have HC := HC2; have HBw := HBw2; have X2 := X22; have X3 := X32; have X4 := X42; have HV := HV2
  clear HC2 HBw2 X22 X32 X42 HV2
  obtain ⟨q2, -, -⟩ := X2.out
  obtain ⟨o0, o1, o2, o3, -⟩ := X3.out
  obtain ⟨q4, q5, -⟩ := X4.out
  cases hhas : hasL (qs.map (·.x)) o.name with
  | false =>
   rw [if_pos hhas] at HA0
   have HR := hide HA0.symm
   clear HA0 hhas
   go_wp2
   exact bodyPost_ret (v := .tuple #[.agg #[.slice none 0 0], .iface 71 (.int .i64 7)]) (by simp [results, Tryz.results20, go_sem, q4]) rfl (catRes_err 7 [] HR.out (by decide) (by first | exact HBw.out | exact HBw.out.setCell (p := ⟨w.heap.size + 1 + 1, 0, none⟩) (by show w.heap.size ≤ w.heap.size + 1 + 1; omega) (.slice none 0 0)))
  | true =>
   rw [if_neg (by rw [hhas]; decide)] at HA0
   obtain ⟨hP0, -⟩ := (hasL_iff HOK.out.rise).1 hhas
   have hP : placeL (qs.map (·.x)) o.name < qs.length := by rwa [List.length_map] at hP0
   clear hhas
   by_cases hk2 : o.kind = 2
   ·rw [if_pos hk2] at HA0
    have HA := hide HA0
    have g2 : (o.kind == 2) = true := by rw [beq_iff_eq]; exact hk2
    clear HA0 hk2 hP0
    generalize placeL (qs.map (·.x)) o.name = P at *
    go_wp2_with fail
    refine (drop_any w2 _ qs P ⟨_, rfl, HC.out⟩ hP hq).mono ?_
    rintro e w3 ⟨u3, rfl, ⟨u4, rfl, hcat⟩, hb3⟩
    obtain ⟨so, sc, e, -⟩ := id hcat
    subst e
    have Y4 := hide (X4.out.later hb3); have HB3 := hide (HBw.out.trans (hb3.mono HBw.out.size)); have HCAT := hide hcat
    obtain ⟨y4, y5, -⟩ := Y4.out
    have HRES : Hid (CatRes w2 r (.returned (.tuple #[.agg #[.slice so (qs.take P ++ qs.drop (P + 1)).length sc], .nilIface])) w3) := ⟨.inr ⟨by rw [← HA.out], _, _, rfl, by rw [← HA.out, List.map_append, List.map_take, List.map_drop], _, rfl, HCAT.out⟩, hb3⟩
    clear hb3 hcat HCAT q2 q4 q5 o0 o1 o2 o3
    generalize (qs.take P ++ qs.drop (P + 1)).length = sl at *
    have HB4 := hide (HB3.out.setCell (p := ⟨w.heap.size + 1 + 1, 0, none⟩) (by show w.heap.size ≤ w.heap.size + 1 + 1; omega) (.slice so sl sc))
    go_wp2
    exact bodyPost_ret (v := .tuple #[.agg #[.slice so sl sc], .nilIface]) (by simp [results, Tryz.results20, go_sem, World.cell?_setCell_same _ _ _ y4]) rfl (HRES.out.fwd HOKR.out y4 HB4.out)
   rw [if_neg hk2] at HA0
   have g2 : (o.kind == 2) = false := beq_eq_false_iff_ne.2 hk2
   rw [List.getElem?_eq_getElem hP0] at HA0
   have hxe : (qs.map (·.x))[placeL (qs.map (·.x)) o.name] = qs[placeL (qs.map (·.x)) o.name].x := List.getElem_map ..
   rw [hxe] at HA0
   dsimp only at HA0
   have HXO := hide (HOK.out.all qs[placeL (qs.map (·.x)) o.name].x (List.mem_map.2 ⟨_, List.getElem_mem hP, rfl⟩))
   clear hxe hP0
   generalize placeL (qs.map (·.x)) o.name = P at *
   obtain ⟨b, off, cap', e⟩ := HC.out.form (by omega)
   simp only [Value.slice.injEq, true_and] at e
   obtain ⟨rfl, rfl⟩ := e
   obtain ⟨hbl, -, d1, -, -⟩ := HC.out.at P hP
   go_wp2_with fail
   have HAA := hide HA0
   clear HA0
   go_region_held3 (fun w' => w'.cell? ⟨w.heap.size, 0, none⟩ = some (.slice (some ⟨b, off, none⟩) qs.length cap) ∧ w'.cell? ⟨w.heap.size + 1, 3, none⟩ = some (.slice vo o.v.length vc) ∧ w'.cell? ⟨b, off + P * 3 + 1, none⟩ = some (.int .i64 qs[P].x.n)) (go_keep)
    (first
     | (go_at_call 41; refine (checkGen_any _ _ o.v qs[P].x.n (HV.out.below (Below.refl _ _).drew (Nat.le_refl _)) (by omega)).mono ?_; rintro e wx ⟨rfl, rfl⟩))
   have hbd : Below w2.heap.size w2 w2.drew := (Below.refl _ _).drew
   have HC2 := hide (HC.out.below hbd); have HBw2 := hide (HBw.out.trans (hbd.mono HBw.out.size)); have X22 := hide (X2.out.later hbd); have X32 := hide (X3.out.later hbd); have X42 := hide (X4.out.later hbd); have HV2 := hide (HV.out.below hbd (Nat.le_refl _))
   clear HC HBw X2 X3 X4 HV q2 q4 q5 o0 o1 o2 o3 d1 hbd
   have HC := HC2; have HBw := HBw2; have X2 := X22; have X3 := X32; have X4 := X42; have HV := HV2
   clear HC2 HBw2 X22 X32 X42 HV2
   generalize w2.drew = w5 at *
   obtain ⟨q2, -, -⟩ := X2.out
   obtain ⟨o0, o1, o2, o3, -⟩ := X3.out
   obtain ⟨q4, q5, -⟩ := X4.out
   have HA0 := HAA.out
   clear HAA
   by_cases hg : genF o.v qs[P].x.n = 0
   ·rw [if_neg (by rw [hg]; decide)] at HA0
    have e0 : errV (genF o.v qs[P].x.n) = .nilIface := by rw [hg]; rfl
    rw [e0]
    have HG := hide hg
    clear e0 hg
    by_cases hk3 : o.kind = 3
    ·rw [if_pos hk3] at HA0
     have HA := hide HA0.symm
     have g3 : (o.kind == 3) = true := by rw [beq_iff_eq]; exact hk3
     have HVN : Hid (o.v ≠ []) := fun e => by
      have h1 := (genF_ok.1 HG.out).1
      have h2 := HXO.out.n.1
      rw [e] at h1
      simp at h1
      omega
     clear HA0 hk3
     go_wp2_with fail
     refine (bput_any w5 _ _ qs P o.v ⟨_, rfl, HC.out⟩ hP hq HXO.out.few HV.out hv1 HNE.out HVN.out r HA.out).mono ?_
     rintro e w3 hres
     obtain ⟨so, sl, sc, ev, rfl⟩ := hres.form
     have Y4 := hide (X4.out.later hres.2); have HRES := hide hres; have HB3 := hide (HBw.out.trans (hres.2.mono HBw.out.size))
     obtain ⟨y4, y5, -⟩ := Y4.out
     clear hres q2 q4 q5 o0 o1 o2 o3
     have HB4 := hide (HB3.out.setCell (p := ⟨w.heap.size + 1 + 1, 0, none⟩) (by show w.heap.size ≤ w.heap.size + 1 + 1; omega) (.slice so sl sc))
     go_wp2
     exact bodyPost_ret (v := .tuple #[.agg #[.slice so sl sc], ev]) (by simp [results, Tryz.results20, go_sem, World.cell?_setCell_same _ _ _ y4]) rfl (HRES.out.fwd HOKR.out y4 HB4.out)
    ·rw [if_neg hk3] at HA0
     have HA := hide HA0.symm
     have g3 : (o.kind == 3) = false := beq_eq_false_iff_ne.2 hk3
     clear HA0 hk3
     go_wp2_with fail
     refine (take_any w5 _ _ qs P o.v ⟨_, rfl, HC.out⟩ hP hq HXO.out.few (fun g hg => by have h := (genF_ok.1 (HXO.out.gens g hg)).1; have h2 := HXO.out.n; omega) HV.out HNE.out r HA.out).mono ?_
     rintro e w3 hres
     obtain ⟨so, sl, sc, ev, rfl⟩ := hres.form
     have Y4 := hide (X4.out.later hres.2); have HRES := hide hres; have HB3 := hide (HBw.out.trans (hres.2.mono HBw.out.size))
     obtain ⟨y4, y5, -⟩ := Y4.out
     clear hres q2 q4 q5 o0 o1 o2 o3
     have HB4 := hide (HB3.out.setCell (p := ⟨w.heap.size + 1 + 1, 0, none⟩) (by show w.heap.size ≤ w.heap.size + 1 + 1; omega) (.slice so sl sc))
     go_wp2
     exact bodyPost_ret (v := .tuple #[.agg #[.slice so sl sc], ev]) (by simp [results, Tryz.results20, go_sem, World.cell?_setCell_same _ _ _ y4]) rfl (HRES.out.fwd HOKR.out y4 HB4.out)
   ·rw [if_pos hg] at HA0
    have e0 : errV (genF o.v qs[P].x.n) = .iface 71 (.int .i64 (genF o.v qs[P].x.n : Nat)) := by unfold errV; rw [if_neg hg]
    rw [e0]
    have HA := hide HA0.symm
    have HG := hide hg
    clear e0 HA0 hg
    generalize genF o.v qs[P].x.n = c at *
    go_wp2
    exact bodyPost_ret (v := .tuple #[.agg #[.slice none 0 0], .iface 71 (.int .i64 (c : Nat))]) (by simp [results, Tryz.results20, go_sem, q4]) rfl (catRes_err c [] HA.out HG.out (by first | exact HBw.out | exact HBw.out.setCell (p := ⟨w.heap.size + 1 + 1, 0, none⟩) (by show w.heap.size ≤ w.heap.size + 1 + 1; omega) (.slice none 0 0)))

end Go.Proofs.YtjdnhdcaifogmaaGreatDoor

/- bag: a lattice in memory of its own. -/
namespace Go.Proofs.YtjdnhdcaifogmaaGreatDoor
open Go.RowKit

theorem run_mkG (m : Nat) (hm : m ≤ 1000) (W : World) : (Instr.makeSlice 64 (.int .i64 (m : Int)) (.int .i64 (m : Int))).run Tryz.prog W = .ok (.slice (some ⟨W.heap.size, 0, none⟩) m m) (W.alloc (.cells (madeCells #[.slice none 0 0] m) 44)) := by
 obtain ⟨i0, hi, hz0, hz1, hz2⟩ := info_got Tryz.infoIntsB
 have h := run_make (P := Tryz.prog) W 64 44 i0 (.slice none 0 0) (by kernel_rfl) hi hz0 .i64 .i64 m m (by omega) (by omega) (by rw [hz2]; omega) (by omega)
 rw [hz1, Int.toNat_natCast, Nat.mul_one] at h
 exact h

structure FillG (w wr : World) (base P n k : Nat) (ps : List Gc) : Prop where
 own : wr.ownsRow base 44 1 (.slice (some ⟨P, 0, none⟩) n n) n (ps.map (·.1) ++ List.replicate (n - k) (.slice none 0 0))
 len : ps.length = k
 ins : ∀ g ∈ ps, GcIn wr g
 news : ∀ g ∈ ps, ∀ a l c, g.1 = .slice (some a) l c → base ≤ a.block
 below : Below w.heap.size w wr

theorem FillG.start (w W : World) (n : Nat) (hb : Below w.heap.size w W) (hn : n ≤ maxLen) : FillG w (W.alloc (.cells (madeCells #[.slice none 0 0] n) 44)) W.heap.size W.heap.size n 0 [] where
 own := by
  refine ⟨by simp, .inr ⟨W.heap.size, n, _, rfl, Nat.le_refl _, heap_alloc_new W _, Nat.le_refl _, hn, by rw [size_madeCells, Nat.mul_one], ?_⟩⟩
  rw [toList_madeCells_one]; simp
 len := rfl
 ins := fun _ h => by cases h
 news := fun _ h => by cases h
 below := hb.alloc hb.size _

theorem FillG.later {w wr w' : World} {base P n k : Nat} {ps : List Gc} (h : FillG w wr base P n k ps) (hb : Below wr.heap.size wr w') : FillG w w' base P n k ps :=
 ⟨ownsRow_later h.own hb, h.len, fun g hg => (h.ins g hg).below hb (Nat.le_refl _), h.news, h.below.trans (hb.mono h.below.size)⟩

theorem FillG.cell {w wr : World} {base P n k : Nat} {ps : List Gc} (h : FillG w wr base P n k ps) (hk : k < n) : wr.cell? ⟨P, k, none⟩ = some (.slice none 0 0) ∧ wr.frozen? ⟨P, k, none⟩ = false := by
 obtain ⟨g, cap, e, -, hc⟩ := own_at h.own (by omega)
 simp only [Value.slice.injEq, Option.some.injEq, Addr.mk.injEq, and_true, true_and] at e
 obtain ⟨rfl, rfl⟩ := e
 refine ⟨hc k _ ?_, own_free h.own k⟩
 have hl := h.len
 rw [List.getElem?_append_right (by rw [List.length_map]; omega), List.length_map, hl, Nat.sub_self, List.getElem?_replicate, if_pos (by omega)]

theorem FillG.put {w wr : World} {base P n k : Nat} {ps : List Gc} (h : FillG w wr base P n k ps) (hk : k < n) (hP : w.heap.size ≤ P) {u : Value} {g : List Int} (hg : RowS wr u g) (hnew : ∀ a l c, u = .slice (some a) l c → base ≤ a.block) : FillG w (wr.setCell ⟨P, k, none⟩ u) base P n (k + 1) (ps ++ [(u, g)]) where
 own := by
  have hl := h.len
  have := own_set h.own k u
  rw [List.set_append_right _ _ (by rw [List.length_map]; omega), List.length_map, hl, Nat.sub_self, show n - k = (n - (k + 1)) + 1 by omega, List.replicate_succ, List.set_cons_zero] at this
  rw [List.map_append, List.append_assoc]
  exact this
 len := by rw [List.length_append, h.len]; rfl
 ins := fun x hx => by
  have hc := (h.cell hk).1
  rcases List.mem_append.1 hx with h' | h'
  ·exact (h.ins x h').setOne hc u
  ·rw [List.mem_singleton] at h'; subst h'; exact hg.setOne hc u
 news := fun x hx => by
  rcases List.mem_append.1 hx with h' | h'
  ·exact h.news x h'
  ·rw [List.mem_singleton] at h'; subst h'; exact hnew
 below := h.below.setCell (p := ⟨P, k, none⟩) hP u

theorem RowS.setOther {W : World} {v : Value} {ks : List Int} (h : RowS W v ks) {p : Addr} (hp : ∀ a l c, v = .slice (some a) l c → a.block ≠ p.block) (x : Value) : RowS (W.setCell p x) v ks := by
 obtain ⟨ao, cap, e, hn, h6, hh⟩ := h
 refine ⟨ao, cap, e, hn, h6, fun h0 => ?_⟩
 obtain ⟨b, off, e', hlt, hcell⟩ := hh h0
 subst e'
 refine ⟨b, off, rfl, by simpa using hlt, fun i hi => (World.cell?_setCell_other _ _ _ _ fun e2 => ?_).trans (hcell i hi)⟩
 exact hp _ _ _ e (by rw [e2])

theorem FillG.set {w wr : World} {base P n k : Nat} {ps : List Gc} (h : FillG w wr base P n k ps) {p : Addr} (hp : p.block < base) (hw : w.heap.size ≤ p.block) (x : Value) : FillG w (wr.setCell p x) base P n k ps :=
 ⟨ownsRow_setCell_below h.own hp x, h.len, fun g hg => (h.ins g hg).setOther (fun a l c e => by have := h.news g hg a l c e; omega) x, h.news, h.below.setCell hw x⟩

theorem FillG.rows {w wr : World} {base P n : Nat} {ps : List Gc} (h : FillG w wr base P n n ps) : RowsS wr (.slice (some ⟨P, 0, none⟩) n n) (ps.map (·.2)) := by
 have ho := owns_seq h.own
 rw [Nat.sub_self, List.replicate_zero, List.append_nil] at ho
 have hl := h.len
 subst hl
 exact rowsS_of_seq ho h.ins

def BoxT (W : World) (B : Nat) (u0 u1 u2 : Value) : Prop := ThreeV W B u0 u1 u2 ∧ ∀ k, W.frozen? ⟨B, k, none⟩ = false

theorem BoxT.later {W W' : World} {B : Nat} {u0 u1 u2 : Value} (h : BoxT W B u0 u1 u2) (hb : Below W.heap.size W W') : BoxT W' B u0 u1 u2 :=
 ⟨h.1.later hb, fun k => (hb.frozen (p := ⟨B, k, none⟩) h.1.2.2.2).trans (h.2 k)⟩

theorem BoxT.new (W : World) (u0 u1 u2 : Value) (t : TypeId) : BoxT (W.alloc (.cells #[u0, u1, u2] t)) W.heap.size u0 u1 u2 := ⟨ThreeV.new W u0 u1 u2 t, fun k => by simp⟩

theorem BoxT.other {W : World} {B : Nat} {u0 u1 u2 : Value} (h : BoxT W B u0 u1 u2) {p : Addr} (hp : p.block ≠ B) (x : Value) : BoxT (W.setCell p x) B u0 u1 u2 := by
 obtain ⟨⟨h0, h1, h2, h3⟩, h4⟩ := h
 have ne : ∀ k, p ≠ ⟨B, k, none⟩ := fun k e => hp (by rw [e])
 exact ⟨⟨(World.cell?_setCell_other _ _ _ _ (ne 0)).trans h0, (World.cell?_setCell_other _ _ _ _ (ne 1)).trans h1, (World.cell?_setCell_other _ _ _ _ (ne 2)).trans h2, by simpa using h3⟩, fun k => by simpa using h4 k⟩

theorem BoxT.set2 {W : World} {B : Nat} {u0 u1 u2 : Value} (h : BoxT W B u0 u1 u2) (x : Value) : BoxT (W.setCell ⟨B, 2, none⟩ x) B u0 u1 x := by
 obtain ⟨⟨h0, h1, h2, h3⟩, h4⟩ := h
 exact ⟨⟨(World.cell?_setCell_other _ _ _ _ (fun e => by simp at e)).trans h0, (World.cell?_setCell_other _ _ _ _ (fun e => by simp at e)).trans h1, World.cell?_setCell_same _ _ _ h2, by simpa using h3⟩, fun k => by simpa using h4 k⟩

def NcFresh (base : Nat) (W : World) (q : Nc) : Prop :=
 ∃ (ps : List Gc) (b : Nat), q.o = some ⟨b, 0, none⟩ ∧ base ≤ b ∧ ps.map (·.2) = q.x.gens ∧ ps.length = q.l ∧ SeqV W (.slice q.o q.l q.c) q.l (ps.map (·.1)) ∧ ∀ g ∈ ps, GcIn W g ∧ ∀ a l c, g.1 = .slice (some a) l c → base ≤ a.block

theorem NcFresh.ins {base : Nat} {W : World} {q : Nc} (h : NcFresh base W q) : NcIn W q := by
 obtain ⟨ps, b, h1, h2, h3, h4, h5, h6⟩ := h
 have := rowsS_of_seq (v := .slice q.o q.l q.c) (by rw [h4]; exact h5) (fun g hg => (h6 g hg).1)
 rwa [h3] at this

theorem NcFresh.later {base : Nat} {W W' : World} {q : Nc} (h : NcFresh base W q) (hb : Below W.heap.size W W') : NcFresh base W' q := by
 obtain ⟨ps, b, h1, h2, h3, h4, h5, h6⟩ := h
 exact ⟨ps, b, h1, h2, h3, h4, h5.below hb (Nat.le_refl _), fun g hg => ⟨(h6 g hg).1.below hb (Nat.le_refl _), (h6 g hg).2⟩⟩

theorem NcFresh.set {base : Nat} {W : World} {q : Nc} (h : NcFresh base W q) {p : Addr} (hp : p.block < base) (x : Value) : NcFresh base (W.setCell p x) q := by
 obtain ⟨ps, b, h1, h2, h3, h4, h5, h6⟩ := h
 refine ⟨ps, b, h1, h2, h3, h4, ?_, fun g hg => ⟨(h6 g hg).1.setOther (fun a l c e => by have := (h6 g hg).2 a l c e; omega) x, (h6 g hg).2⟩⟩
 obtain ⟨ao, cap, e, hn, hh⟩ := h5
 refine ⟨ao, cap, e, hn, fun h0 => ?_⟩
 obtain ⟨b', off, e', hlt, hc⟩ := hh h0
 refine ⟨b', off, e', by simpa using hlt, fun j u hu => (World.cell?_setCell_other _ _ _ _ fun e2 => ?_).trans (hc j u hu)⟩
 simp only [Value.slice.injEq] at e
 rw [e', h1] at e
 simp only [Option.some.injEq, Addr.mk.injEq, and_true] at e
 have : p.block = b' := by rw [e2]
 omega

theorem NcFresh.mono {base base' : Nat} {W : World} {q : Nc} (h : NcFresh base W q) (hb : base' ≤ base) : NcFresh base' W q := by
 obtain ⟨ps, b, h1, h2, h3, h4, h5, h6⟩ := h
 exact ⟨ps, b, h1, by omega, h3, h4, h5, fun g hg => ⟨(h6 g hg).1, fun a l c e => Nat.le_trans hb ((h6 g hg).2 a l c e)⟩⟩

theorem FillG.fresh {w wr : World} {base P n : Nat} {ps : List Gc} (h : FillG w wr base P n n ps) (q : Nc) (hx : ps.map (·.2) = q.x.gens) (ho : q.o = some ⟨P, 0, none⟩) (hl : q.l = n) (hc : q.c = n) (hP : base ≤ P) : NcFresh base wr q := by
 have hs := owns_seq h.own
 rw [Nat.sub_self, List.replicate_zero, List.append_nil] at hs
 exact ⟨ps, P, ho, hP, hx, by rw [hl]; exact h.len, by rw [ho, hl, hc]; exact hs, fun g hg => ⟨h.ins g hg, h.news g hg⟩⟩

set_option linter.unusedSimpArgs false in
set_option maxRecDepth 100000 in
set_option maxHeartbeats 1600000 in
theorem copied_any (w : World) (q : Nc) (hq : NcIn w q) (hl : q.x.gens.length ≤ 1000) (hg : ∀ g ∈ q.x.gens, g.length ≤ 1000 ∧ g ≠ []) :
  Calls Tryz.prog 30 #[q.val] w fun e w' => ∃ q' : Nc, e = .returned q'.val ∧ q'.x = q.x ∧ NcFresh w.heap.size w' q' ∧ Below w.heap.size w w' := by
 obtain ⟨⟨nm, n, gens⟩, go, gl, gc⟩ := q
 have HQ : Hid (RowsS w (.slice go gl gc) gens) := hq
 have HG := hide hg
 have hgl : gl = gens.length := by
  obtain ⟨_, _, e, -⟩ := id HQ.out
  simp only [Value.slice.injEq] at e
  exact e.2.1
 subst hgl
 have hm := run_mkG gens.length hl
 have hb1 := alloc_below w (.cells #[.string nm, .int .i64 n, .slice go gens.length gc] 66)
 have hb2 := alloc_below (w.alloc (.cells #[.string nm, .int .i64 n, .slice go gens.length gc] 66)) (.cells #[.string ⟨#[]⟩, .int .i64 0, .slice none 0 0] 66)
 have X1 := hide ((BoxT.new w (.string nm) (.int .i64 n) (.slice go gens.length gc) 66).later hb2)
 have X2 : Hid (BoxT ((w.alloc (.cells #[.string nm, .int .i64 n, .slice go gens.length gc] 66)).alloc (.cells #[.string ⟨#[]⟩, .int .i64 0, .slice none 0 0] 66)) (w.heap.size + 1) (.string ⟨#[]⟩) (.int .i64 0) (.slice none 0 0)) := by
  have := BoxT.new (w.alloc (.cells #[.string nm, .int .i64 n, .slice go gens.length gc] 66)) (.string ⟨#[]⟩) (.int .i64 0) (.slice none 0 0) 66
  have e : (w.alloc (.cells #[.string nm, .int .i64 n, .slice go gens.length gc] 66)).heap.size = w.heap.size + 1 := by simp
  rwa [e] at this
 have HB := hide (hb1.trans (hb2.mono hb1.size))
 have HS : Hid (((w.alloc (.cells #[.string nm, .int .i64 n, .slice go gens.length gc] 66)).alloc (.cells #[.string ⟨#[]⟩, .int .i64 0, .slice none 0 0] 66)).heap.size = w.heap.size + 1 + 1) := by show _ = _; simp
 obtain ⟨⟨c0, c1, c2, -⟩, -⟩ := X1.out
 clear hq hg hb1 hb2
 show Calls Tryz.prog 30 #[.agg #[.string nm, .int .i64 n, .slice go gens.length gc]] w _
 go_enter Tryz.func30, Tryz.ntmps30
 go_wp2_with fail
 generalize (w.alloc (.cells #[.string nm, .int .i64 n, .slice go gens.length gc] 66)).alloc (.cells #[.string ⟨#[]⟩, .int .i64 0, .slice none 0 0] 66) = W0 at *
 have HF0 := hide (FillG.start w W0 gens.length HB.out (by unfold maxLen; omega))
 have hbM := alloc_below W0 (.cells (madeCells #[.slice none 0 0] gens.length) 44)
 have X1M := hide (X1.out.later hbM); have X2M := hide (X2.out.later hbM)
 clear X1 X2 hbM c0 c1 c2
 obtain ⟨⟨c0, c1, c2, -⟩, -⟩ := X1M.out
 rw [HS.out] at HF0
 generalize W0.alloc (.cells (madeCells #[.slice none 0 0] gens.length) 44) = W1 at *
 obtain ⟨P, hP⟩ : ∃ P, w.heap.size + 1 + 1 = P := ⟨_, rfl⟩
 rw [hP] at HF0
 rw [hP]
 have HPB : Hid (P = w.heap.size + 2) := by show _ = _; omega
 clear hP
 have HN : Hid (FillG w W1 P P gens.length 0 []) := HF0.out
 clear HF0 HB HS hm
 go_wp2_with fail
 go_loopw [12] (fun i wr => ∃ (k : Nat) (ps : List Gc), k ≤ gens.length ∧ i = .int .i64 k ∧ Hid (FillG w wr P P gens.length k ps) ∧ Hid (ps.map (·.2) = gens.take k) ∧ Hid (BoxT wr w.heap.size (.string nm) (.int .i64 n) (.slice go gens.length gc)) ∧ Hid (BoxT wr (w.heap.size + 1) (.string ⟨#[]⟩) (.int .i64 0) (.slice none 0 0))) (fun i _ => gens.length - (intOf i).toNat)
 case atStart => exact ⟨0, [], Nat.zero_le _, rfl, HN, hide (by simp), X1M, X2M⟩
 case round =>
  clear HN X1M X2M c0 c1 c2
  obtain ⟨k, ps, hk, rfl, HFI, HP, X1, X2⟩ := hrel
  obtain ⟨⟨c0, c1, c2, -⟩, -⟩ := X1.out
  by_cases hkl : k < gens.length
  ·obtain ⟨b, off, cap, e, hlt, u, cu, hu⟩ := (HQ.out.below HFI.out.below).at k hkl
   simp only [Value.slice.injEq, true_and] at e
   obtain ⟨rfl, rfl⟩ := e
   have HU := hide hu
   obtain ⟨uo, uc, rfl⟩ := hu.form
   have hg1 := HG.out gens[k] (List.getElem_mem hkl)
   have HP' : Hid (∀ v : Value, (ps ++ [(v, gens[k])]).map (·.2) = gens.take (k + 1)) := fun v => by
    rw [List.map_append, HP.out, List.take_succ_eq_append_getElem hkl]; rfl
   have HGL := hide hg1.1
   clear hu hg1
   generalize gens[k] = g at *
   go_wp2_with fail
   refine (cloneI_any wr _ g HU.out HGL.out).mono ?_
   rintro e w2 ⟨vo, vc, rfl, hv, hb, hnew⟩
   have HF2 := hide (HFI.out.later hb); have X12 := hide (X1.out.later hb); have X22 := hide (X2.out.later hb)
   obtain ⟨d1, d2⟩ := HF2.out.cell hkl
   have hbsz := hb.size
   have HN3 := hide (HF2.out.put hkl (by have := HPB.out; omega) hv (fun a l c e => by
    simp only [Value.slice.injEq] at e
    have h1 := hnew a e.1
    have h2 := HFI.out.own.lt P rfl
    omega))
   have X13 := hide (X12.out.other (p := ⟨P, k, none⟩) (by show P ≠ w.heap.size; have := HPB.out; omega) (.slice vo g.length vc)); have X23 := hide (X22.out.other (p := ⟨P, k, none⟩) (by show P ≠ w.heap.size + 1; have := HPB.out; omega) (.slice vo g.length vc))
   have HP2 := hide (HP'.out (.slice vo g.length vc))
   clear hv hb hnew HFI HF2 X1 X2 X12 X22 c0 c1 c2 cu HU HGL HP HP' hbsz
   go_wp2
   go_roundw
   case rel => exact ⟨k + 1, _, by omega, by go_num, HN3, HP2, X13, X23⟩
   case measure => simp [intOf]; omega
  ·obtain rfl : k = gens.length := by omega
   have hpp := HP.out
   rw [List.take_length] at hpp
   have HPP := hide hpp
   clear hpp
   obtain ⟨⟨y0, y1, y2, -⟩, y3⟩ := X2.out
   have f0 := y3 0; have f1 := y3 1; have f2 := y3 2
   have z2 := X1.out.2 2
   have HFa := hide (HFI.out.set (p := ⟨w.heap.size, 2, none⟩) (by show w.heap.size < P; have := HPB.out; omega) (Nat.le_refl _) (.slice (some ⟨P, 0, none⟩) gens.length gens.length))
   have x1 := X1.out.set2 (.slice (some ⟨P, 0, none⟩) gens.length gens.length)
   have x2 := X2.out.other (p := ⟨w.heap.size, 2, none⟩) (by show w.heap.size ≠ w.heap.size + 1; omega) (.slice (some ⟨P, 0, none⟩) gens.length gens.length)
   obtain ⟨⟨a0, a1, a2, -⟩, -⟩ := x1
   obtain ⟨⟨b0, b1, b2, -⟩, b3⟩ := x2
   have g0 := b3 0; have g1 := b3 1; have g2 := b3 2
   have HFd := hide ((((HFa.out.set (p := ⟨w.heap.size + 1, 0, none⟩) (by show w.heap.size + 1 < P; have := HPB.out; omega) (by show w.heap.size ≤ w.heap.size + 1; omega) (.string nm)).set (p := ⟨w.heap.size + 1, 1, none⟩) (by show w.heap.size + 1 < P; have := HPB.out; omega) (by show w.heap.size ≤ w.heap.size + 1; omega) (.int .i64 n)).set (p := ⟨w.heap.size + 1, 2, none⟩) (by show w.heap.size + 1 < P; have := HPB.out; omega) (by show w.heap.size ≤ w.heap.size + 1; omega) (.slice (some ⟨P, 0, none⟩) gens.length gens.length)))
   clear HFI HFa b3 y3 X1 X2 y0 y1 y2 f0 f1 f2
   have HRO := hide ((HFd.out.fresh ⟨⟨nm, n, gens⟩, some ⟨P, 0, none⟩, gens.length, gens.length⟩ HPP.out rfl rfl rfl (Nat.le_refl _)).mono (base' := w.heap.size) (by have := HPB.out; omega))
   have e0 : ((((wr.setCell ⟨w.heap.size, 2, none⟩ (.slice (some ⟨P, 0, none⟩) gens.length gens.length)).setCell ⟨w.heap.size + 1, 0, none⟩ (.string nm)).setCell ⟨w.heap.size + 1, 1, none⟩ (.int .i64 n)).setCell ⟨w.heap.size + 1, 2, none⟩ (.slice (some ⟨P, 0, none⟩) gens.length gens.length)).cell? ⟨w.heap.size + 1, 0, none⟩ = some (.string nm) := (World.cell?_setCell_other _ _ _ _ (fun e => by simp at e)).trans ((World.cell?_setCell_other _ _ _ _ (fun e => by simp at e)).trans (World.cell?_setCell_same _ _ _ b0))
   have b1' := (World.cell?_setCell_other (wr.setCell ⟨w.heap.size, 2, none⟩ (.slice (some ⟨P, 0, none⟩) gens.length gens.length)) ⟨w.heap.size + 1, 0, none⟩ ⟨w.heap.size + 1, 1, none⟩ (.string nm) (fun e => by simp at e)).trans b1
   have b2' := (World.cell?_setCell_other _ ⟨w.heap.size + 1, 1, none⟩ ⟨w.heap.size + 1, 2, none⟩ (.int .i64 n) (fun e => by simp at e)).trans ((World.cell?_setCell_other (wr.setCell ⟨w.heap.size, 2, none⟩ (.slice (some ⟨P, 0, none⟩) gens.length gens.length)) ⟨w.heap.size + 1, 0, none⟩ ⟨w.heap.size + 1, 2, none⟩ (.string nm) (fun e => by simp at e)).trans b2)
   have e1 := (World.cell?_setCell_other (((wr.setCell ⟨w.heap.size, 2, none⟩ (.slice (some ⟨P, 0, none⟩) gens.length gens.length)).setCell ⟨w.heap.size + 1, 0, none⟩ (.string nm)).setCell ⟨w.heap.size + 1, 1, none⟩ (.int .i64 n)) ⟨w.heap.size + 1, 2, none⟩ ⟨w.heap.size + 1, 1, none⟩ (.slice (some ⟨P, 0, none⟩) gens.length gens.length) (fun e => by simp at e)).trans (World.cell?_setCell_same _ _ (.int .i64 n) b1')
   have e2 := World.cell?_setCell_same _ _ (.slice (some ⟨P, 0, none⟩) gens.length gens.length) b2'
   have HE := hide (And.intro e0 (And.intro e1 e2))
   have HBX := hide HFd.out.below
   clear e0 e1 e2 b1' b2' HFd
   go_wp2
   obtain ⟨e0, e1, e2⟩ := HE.out
   exact bodyPost_ret (v := .agg #[.string nm, .int .i64 n, .slice (some ⟨P, 0, none⟩) gens.length gens.length]) (by simp [results, Tryz.results30, go_sem, e0, e1, e2]) rfl ⟨⟨⟨nm, n, gens⟩, some ⟨P, 0, none⟩, gens.length, gens.length⟩, rfl, rfl, HRO.out, HBX.out⟩

end Go.Proofs.YtjdnhdcaifogmaaGreatDoor
