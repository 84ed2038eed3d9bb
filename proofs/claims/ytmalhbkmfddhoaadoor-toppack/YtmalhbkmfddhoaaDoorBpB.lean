/- bag: an operation is applied. -/
import Derived.Test.YtmalhbkmfddhoaaDoorBgN
import Derived.Test.YtmalhbkmfddhoaaDoorBgB
import Derived.Test.YtmalhbkmfddhoaaDoorUpP
import Derived.Lib.AppendStr
import Derived.Lib.UnsafeStr
import Derived.Laws.IdiomStrings

namespace Go.Proofs.YtmalhbkmfddhoaaDoor
open Go.RowKit

theorem nonE_of_ok {qs : List Nc} (h : ∀ x ∈ qs.map (·.x), NmOk x) : NonE qs := fun q hq g hg => by
 have hx := h q.x (List.mem_map.2 ⟨q, hq, rfl⟩)
 have := (genF_ok.1 (hx.gens g hg)).1
 intro e
 rw [e] at this
 have := hx.n.1
 simp at *
 omega

theorem CatRes.form {w w' : World} {r : Nat × List Nmd} {e : Ending} (h : CatRes w r e w') : ∃ so sl sc ev, e = .returned (.tuple #[.agg #[.slice so sl sc], ev]) := by
 rcases h.1 with ⟨-, rfl⟩ | ⟨-, u, qs, rfl, -, u', rfl, ao, cap, rfl, -⟩
 ·exact ⟨_, _, _, _, rfl⟩
 ·exact ⟨_, _, _, _, rfl⟩

theorem CatRes.fwd {w W w' w2 : World} {r : Nat × List Nmd} {u ev x : Value} {B : Nat} (h : CatRes W r (.returned (.tuple #[u, ev])) w') (hok : r.1 = 0 → CatOk r.2) (hc : w'.cell? ⟨B, 0, none⟩ = some (.slice none 0 0)) (hb : Below w.heap.size w (w'.setCell ⟨B, 0, none⟩ x)) (hw : w2 = w'.setCell ⟨B, 0, none⟩ x := by rfl) : CatRes w r (.returned (.tuple #[u, ev])) w2 := by
 subst hw
 refine ⟨?_, hb⟩
 rcases h.1 with ⟨h1, h2⟩ | ⟨h1, u', qs, h2, h3, v, h4, h5⟩
 ·exact .inl ⟨h1, h2⟩
 ·refine .inr ⟨h1, u', qs, h2, h3, v, h4, h5.setOne (nonE_of_ok fun x hx => ?_) hc x⟩
  rw [h3] at hx
  exact (hok h1).all x hx

theorem three_vars (w : World) (u x : Value) (a0 a1 a2 a3 : Value) (s t y : TypeId) : One (((w.alloc (.cells #[u] s)).alloc (.cells #[a0, a1, a2, a3] t)).alloc (.cells #[x] y)) w.heap.size u ∧ FourV (((w.alloc (.cells #[u] s)).alloc (.cells #[a0, a1, a2, a3] t)).alloc (.cells #[x] y)) (w.heap.size + 1) a0 a1 a2 a3 ∧ One (((w.alloc (.cells #[u] s)).alloc (.cells #[a0, a1, a2, a3] t)).alloc (.cells #[x] y)) (w.heap.size + 1 + 1) x ∧ Below w.heap.size w (((w.alloc (.cells #[u] s)).alloc (.cells #[a0, a1, a2, a3] t)).alloc (.cells #[x] y)) := by
 have hb1 := alloc_below w (.cells #[u] s)
 have hb2 := alloc_below (w.alloc (.cells #[u] s)) (.cells #[a0, a1, a2, a3] t)
 have hb3 := alloc_below ((w.alloc (.cells #[u] s)).alloc (.cells #[a0, a1, a2, a3] t)) (.cells #[x] y)
 have e1 : (w.alloc (.cells #[u] s)).heap.size = w.heap.size + 1 := by simp
 have e2 : ((w.alloc (.cells #[u] s)).alloc (.cells #[a0, a1, a2, a3] t)).heap.size = w.heap.size + 1 + 1 := by simp
 have h1 := (One.new w u s).later (hb2.trans (hb3.mono hb2.size))
 have h2 := (FourV.new (w.alloc (.cells #[u] s)) a0 a1 a2 a3 t).later hb3
 have h3 := One.new ((w.alloc (.cells #[u] s)).alloc (.cells #[a0, a1, a2, a3] t)) x y
 rw [e1] at h2
 rw [e2] at h3
 exact ⟨h1, h2, h3, hb1.trans ((hb2.trans (hb3.mono hb2.size)).mono hb1.size)⟩

theorem applyC_shape {cs : List Nmd} {o : OpV} (h : opOk o = false) : applyC cs o = (3, []) := by unfold applyC; rw [if_pos h]

set_option linter.unusedSimpArgs false in
set_option maxRecDepth 100000 in
set_option maxHeartbeats 1600000 in
theorem apply_any (w : World) (v : Value) (qs : List Nc) (o : OpV) (vo : Option Addr) (vc : Nat) (h : CatV w v qs) (hok : CatOk (qs.map (·.x))) (hv : RowS w (.slice vo o.v.length vc) o.v) (hv1 : o.v.length ≤ 100) :
  Calls Tryd.prog 10 #[v, .agg #[.int .i64 o.kind, .string o.name, .int .i64 o.n, .slice vo o.v.length vc]] w fun e w' => CatRes w (applyC (qs.map (·.x)) o) e w' := by
 have HOKR := hide (applyC_ok hok o)
 have HNE := hide (nonE_of_ok hok.all)
 have HOK := hide hok
 have hq : qs.length ≤ 100 := by have := hok.few; rw [List.length_map] at this; omega
 obtain ⟨u, rfl, hu⟩ := h
 obtain ⟨ao, cap, rfl, hcap, -⟩ := id hu
 obtain ⟨x2, x3, x4, hbn⟩ := three_vars w (.slice ao qs.length cap) (.slice none 0 0) (.int .i64 o.kind) (.string o.name) (.int .i64 o.n) (.slice vo o.v.length vc) 25 36 25
 have HC0 := hide (hu.below hbn); have HB0 := hide hbn; have X20 := hide x2; have X30 := hide x3; have X40 := hide x4; have HV0 := hide (hv.below hbn (Nat.le_refl _))
 obtain ⟨q2, -, -⟩ := x2
 obtain ⟨o0, o1, o2, o3, -⟩ := x3
 obtain ⟨q4, q5, -⟩ := x4
 generalize hr : applyC (qs.map (·.x)) o = r at *
 have HAP : Hid (applyC (qs.map (·.x)) o = r) := hr
 clear hu hbn hok hv hr
 go_enter Tryd.func10, Tryd.ntmps10
 go_wp2_with fail
 generalize (((w.alloc (.cells #[.slice ao qs.length cap] 25)).alloc (.cells #[.int .i64 o.kind, .string o.name, .int .i64 o.n, .slice vo o.v.length vc] 36)).alloc (.cells #[.slice none 0 0] 25)) = W0 at *
 refine (shaped_any W0 o vo vc).mono ?_
 rintro e w1 ⟨rfl, hb1⟩
 have HC := hide (HC0.out.below hb1); have HBw := hide (HB0.out.trans (hb1.mono HB0.out.size)); have X2 := hide (X20.out.later hb1); have X3 := hide (X30.out.later hb1); have X4 := hide (X40.out.later hb1); have HV := hide (HV0.out.below hb1 (Nat.le_refl _))
 clear hb1 HC0 HB0 X20 X30 X40 HV0 q2 q4 q5 o0 o1 o2 o3
 obtain ⟨q2, -, -⟩ := X2.out
 obtain ⟨o0, o1, o2, o3, -⟩ := X3.out
 obtain ⟨q4, q5, -⟩ := X4.out
 cases hsh : opOk o with
 | false =>
  have HR : Hid (r = (3, [])) := HAP.out.symm.trans (applyC_shape hsh)
  clear hsh
  go_wp2
  exact bodyPost_ret (v := .tuple #[.agg #[.slice none 0 0], .iface 47 (.int .i64 3)]) (by simp [results, Tryd.results10, go_sem, q4]) rfl (catRes_err 3 [] HR.out (by decide) (by first | exact HBw.out | exact HBw.out.setCell (p := ⟨w.heap.size + 1 + 1, 0, none⟩) (by show w.heap.size ≤ w.heap.size + 1 + 1; omega) (.slice none 0 0)))
 | true =>
  have HA0 := HAP.out
  unfold applyC at HA0
  rw [if_neg (by rw [hsh]; decide)] at HA0
  by_cases hk1 : o.kind = 1
  ·rw [if_pos hk1] at HA0
   have HA := hide HA0
   have g1 : (o.kind == 1) = true := by rw [beq_iff_eq]; exact hk1
   have HK := hide hk1
   clear HA0 hk1 hsh
   go_wp2_with fail
   refine (create_any w1 _ qs o.name o.n ⟨_, rfl, HC.out⟩ hq HOK.out.rise r HA.out.symm).mono ?_
   rintro e w3 hres
   obtain ⟨so, sl, sc, ev, rfl⟩ := hres.form
   have Y4 := hide (X4.out.later hres.2); have HRES := hide hres; have HB3 := hide (HBw.out.trans (hres.2.mono HBw.out.size))
   obtain ⟨y4, y5, -⟩ := Y4.out
   clear hres q2 q4 q5 o0 o1 o2 o3
   have HB4 := hide (HB3.out.setCell (p := ⟨w.heap.size + 1 + 1, 0, none⟩) (by show w.heap.size ≤ w.heap.size + 1 + 1; omega) (.slice so sl sc))
   go_wp2
   exact bodyPost_ret (v := .tuple #[.agg #[.slice so sl sc], ev]) (by simp [results, Tryd.results10, go_sem, World.cell?_setCell_same _ _ _ y4]) rfl (HRES.out.fwd HOKR.out y4 HB4.out)
  rw [if_neg hk1] at HA0
  have g1 : (o.kind == 1) = false := beq_eq_false_iff_ne.2 hk1
  have HSH := hide hsh
  clear hsh
  go_wp2_with fail
  refine (place_any w1 _ qs o.name ⟨_, rfl, HC.out⟩ (by omega) HOK.out.rise).mono ?_
  rintro e w2 ⟨rfl, hb2⟩
  have HC2 := hide (HC.out.below hb2); have HBw2 := hide (HBw.out.trans (hb2.mono HBw.out.size)); have X22 := hide (X2.out.later hb2); have X32 := hide (X3.out.later hb2); have X42 := hide (X4.out.later hb2); have HV2 := hide (HV.out.below hb2 (Nat.le_refl _))
  clear hb2 HC HBw X2 X3 X4 HV q2 q4 q5 o0 o1 o2 o3
  have HC := HC2; have HBw := HBw2; have X2 := X22; have X3 := X32; have X4 := X42; have HV := HV2
  clear HC2 HBw2 X22 X32 X42 HV2
  obtain ⟨q2, -, -⟩ := X2.out
  obtain ⟨o0, o1, o2, o3, -⟩ := X3.out
  obtain ⟨q4, q5, -⟩ := X4.out
  cases hhas : hasL (qs.map (·.x)) o.name with
  | false =>
   rw [if_pos hhas] at HA0
   have HR := hide HA0.symm
   clear HA0 hhas
   go_wp2
   exact bodyPost_ret (v := .tuple #[.agg #[.slice none 0 0], .iface 47 (.int .i64 7)]) (by simp [results, Tryd.results10, go_sem, q4]) rfl (catRes_err 7 [] HR.out (by decide) (by first | exact HBw.out | exact HBw.out.setCell (p := ⟨w.heap.size + 1 + 1, 0, none⟩) (by show w.heap.size ≤ w.heap.size + 1 + 1; omega) (.slice none 0 0)))
  | true =>
   rw [if_neg (by rw [hhas]; decide)] at HA0
   obtain ⟨hP0, -⟩ := (hasL_iff HOK.out.rise).1 hhas
   have hP : placeL (qs.map (·.x)) o.name < qs.length := by rwa [List.length_map] at hP0
   clear hhas
   by_cases hk2 : o.kind = 2
   ·rw [if_pos hk2] at HA0
    have HA := hide HA0
    have g2 : (o.kind == 2) = true := by rw [beq_iff_eq]; exact hk2
    clear HA0 hk2 hP0
    generalize placeL (qs.map (·.x)) o.name = P at *
    go_wp2_with fail
    refine (drop_any w2 _ qs P ⟨_, rfl, HC.out⟩ hP hq).mono ?_
    rintro e w3 ⟨u3, rfl, ⟨u4, rfl, hcat⟩, hb3⟩
    obtain ⟨so, sc, e, -⟩ := id hcat
    subst e
    have Y4 := hide (X4.out.later hb3); have HB3 := hide (HBw.out.trans (hb3.mono HBw.out.size)); have HCAT := hide hcat
    obtain ⟨y4, y5, -⟩ := Y4.out
    have HRES : Hid (CatRes w2 r (.returned (.tuple #[.agg #[.slice so (qs.take P ++ qs.drop (P + 1)).length sc], .nilIface])) w3) := ⟨.inr ⟨by rw [← HA.out], _, _, rfl, by rw [← HA.out, List.map_append, List.map_take, List.map_drop], _, rfl, HCAT.out⟩, hb3⟩
    clear hb3 hcat HCAT q2 q4 q5 o0 o1 o2 o3
    generalize (qs.take P ++ qs.drop (P + 1)).length = sl at *
    have HB4 := hide (HB3.out.setCell (p := ⟨w.heap.size + 1 + 1, 0, none⟩) (by show w.heap.size ≤ w.heap.size + 1 + 1; omega) (.slice so sl sc))
    go_wp2
    exact bodyPost_ret (v := .tuple #[.agg #[.slice so sl sc], .nilIface]) (by simp [results, Tryd.results10, go_sem, World.cell?_setCell_same _ _ _ y4]) rfl (HRES.out.fwd HOKR.out y4 HB4.out)
   rw [if_neg hk2] at HA0
   have g2 : (o.kind == 2) = false := beq_eq_false_iff_ne.2 hk2
   rw [List.getElem?_eq_getElem hP0] at HA0
   have hxe : (qs.map (·.x))[placeL (qs.map (·.x)) o.name] = qs[placeL (qs.map (·.x)) o.name].x := List.getElem_map ..
   rw [hxe] at HA0
   dsimp only at HA0
   have HXO := hide (HOK.out.all qs[placeL (qs.map (·.x)) o.name].x (List.mem_map.2 ⟨_, List.getElem_mem hP, rfl⟩))
   clear hxe hP0
   generalize placeL (qs.map (·.x)) o.name = P at *
   obtain ⟨b, off, cap', e⟩ := HC.out.form (by omega)
   simp only [Value.slice.injEq, true_and] at e
   obtain ⟨rfl, rfl⟩ := e
   obtain ⟨hbl, -, d1, -, -⟩ := HC.out.at P hP
   go_wp2_with fail
   have HAA := hide HA0
   clear HA0
   go_region_held3 (fun w' => w'.cell? ⟨w.heap.size, 0, none⟩ = some (.slice (some ⟨b, off, none⟩) qs.length cap) ∧ w'.cell? ⟨w.heap.size + 1, 3, none⟩ = some (.slice vo o.v.length vc) ∧ w'.cell? ⟨b, off + P * 3 + 1, none⟩ = some (.int .i64 qs[P].x.n)) (go_keep)
    (first
     | (go_at_call 23; refine (checkGen_any _ _ o.v qs[P].x.n (HV.out.below (Below.refl _ _).drew (Nat.le_refl _)) (by omega)).mono ?_; rintro e wx ⟨rfl, rfl⟩))
   have hbd : Below w2.heap.size w2 w2.drew := (Below.refl _ _).drew
   have HC2 := hide (HC.out.below hbd); have HBw2 := hide (HBw.out.trans (hbd.mono HBw.out.size)); have X22 := hide (X2.out.later hbd); have X32 := hide (X3.out.later hbd); have X42 := hide (X4.out.later hbd); have HV2 := hide (HV.out.below hbd (Nat.le_refl _))
   clear HC HBw X2 X3 X4 HV q2 q4 q5 o0 o1 o2 o3 d1 hbd
   have HC := HC2; have HBw := HBw2; have X2 := X22; have X3 := X32; have X4 := X42; have HV := HV2
   clear HC2 HBw2 X22 X32 X42 HV2
   generalize w2.drew = w5 at *
   obtain ⟨q2, -, -⟩ := X2.out
   obtain ⟨o0, o1, o2, o3, -⟩ := X3.out
   obtain ⟨q4, q5, -⟩ := X4.out
   have HA0 := HAA.out
   clear HAA
   by_cases hg : genF o.v qs[P].x.n = 0
   ·rw [if_neg (by rw [hg]; decide)] at HA0
    have e0 : errV (genF o.v qs[P].x.n) = .nilIface := by rw [hg]; rfl
    rw [e0]
    have HG := hide hg
    clear e0 hg
    by_cases hk3 : o.kind = 3
    ·rw [if_pos hk3] at HA0
     have HA := hide HA0.symm
     have g3 : (o.kind == 3) = true := by rw [beq_iff_eq]; exact hk3
     have HVN : Hid (o.v ≠ []) := fun e => by
      have h1 := (genF_ok.1 HG.out).1
      have h2 := HXO.out.n.1
      rw [e] at h1
      simp at h1
      omega
     clear HA0 hk3
     go_wp2_with fail
     refine (bput_any w5 _ _ qs P o.v ⟨_, rfl, HC.out⟩ hP hq HXO.out.few HV.out hv1 HNE.out HVN.out r HA.out).mono ?_
     rintro e w3 hres
     obtain ⟨so, sl, sc, ev, rfl⟩ := hres.form
     have Y4 := hide (X4.out.later hres.2); have HRES := hide hres; have HB3 := hide (HBw.out.trans (hres.2.mono HBw.out.size))
     obtain ⟨y4, y5, -⟩ := Y4.out
     clear hres q2 q4 q5 o0 o1 o2 o3
     have HB4 := hide (HB3.out.setCell (p := ⟨w.heap.size + 1 + 1, 0, none⟩) (by show w.heap.size ≤ w.heap.size + 1 + 1; omega) (.slice so sl sc))
     go_wp2
     exact bodyPost_ret (v := .tuple #[.agg #[.slice so sl sc], ev]) (by simp [results, Tryd.results10, go_sem, World.cell?_setCell_same _ _ _ y4]) rfl (HRES.out.fwd HOKR.out y4 HB4.out)
    ·rw [if_neg hk3] at HA0
     have HA := hide HA0.symm
     have g3 : (o.kind == 3) = false := beq_eq_false_iff_ne.2 hk3
     clear HA0 hk3
     go_wp2_with fail
     refine (take_any w5 _ _ qs P o.v ⟨_, rfl, HC.out⟩ hP hq HXO.out.few (fun g hg => by have h := (genF_ok.1 (HXO.out.gens g hg)).1; have h2 := HXO.out.n; omega) HV.out HNE.out r HA.out).mono ?_
     rintro e w3 hres
     obtain ⟨so, sl, sc, ev, rfl⟩ := hres.form
     have Y4 := hide (X4.out.later hres.2); have HRES := hide hres; have HB3 := hide (HBw.out.trans (hres.2.mono HBw.out.size))
     obtain ⟨y4, y5, -⟩ := Y4.out
     clear hres q2 q4 q5 o0 o1 o2 o3
     have HB4 := hide (HB3.out.setCell (p := ⟨w.heap.size + 1 + 1, 0, none⟩) (by show w.heap.size ≤ w.heap.size + 1 + 1; omega) (.slice so sl sc))
     go_wp2
     exact bodyPost_ret (v := .tuple #[.agg #[.slice so sl sc], ev]) (by simp [results, Tryd.results10, go_sem, World.cell?_setCell_same _ _ _ y4]) rfl (HRES.out.fwd HOKR.out y4 HB4.out)
   ·rw [if_pos hg] at HA0
    have e0 : errV (genF o.v qs[P].x.n) = .iface 47 (.int .i64 (genF o.v qs[P].x.n : Nat)) := by unfold errV; rw [if_neg hg]
    rw [e0]
    have HA := hide HA0.symm
    have HG := hide hg
    clear e0 HA0 hg
    generalize genF o.v qs[P].x.n = c at *
    go_wp2
    exact bodyPost_ret (v := .tuple #[.agg #[.slice none 0 0], .iface 47 (.int .i64 (c : Nat))]) (by simp [results, Tryd.results10, go_sem, q4]) rfl (catRes_err c [] HA.out HG.out (by first | exact HBw.out | exact HBw.out.setCell (p := ⟨w.heap.size + 1 + 1, 0, none⟩) (by show w.heap.size ≤ w.heap.size + 1 + 1; omega) (.slice none 0 0)))

end Go.Proofs.YtmalhbkmfddhoaaDoor

/- A region that draws its order: d, err := c.Apply(..) with a variable of one's own for d: q plain operations, the call, and what unpacks it. -/
namespace Go.Proofs.YtmalhbkmfddhoaaDoor
open Go.RowKit

def apD (q : Nat) (ps : Nat → List Nat) (i : Nat) : List Nat :=
 if i ≤ q then ps i else if i = q + 1 then [q] else if i = q + 2 then [q + 1] else if i = q + 3 then [q + 1] else if i = q + 4 then [] else if i = q + 5 then [q + 2, q + 4] else if i = q + 6 then [q + 3] else []

theorem apD_1 (q : Nat) (ps : Nat → List Nat) : apD q ps (q + 1) = [q] := by unfold apD; rw [if_neg (by omega), if_pos rfl]
theorem apD_2 (q : Nat) (ps : Nat → List Nat) : apD q ps (q + 2) = [q + 1] := by unfold apD; rw [if_neg (by omega), if_neg (by omega), if_pos rfl]
theorem apD_3 (q : Nat) (ps : Nat → List Nat) : apD q ps (q + 3) = [q + 1] := by unfold apD; rw [if_neg (by omega), if_neg (by omega), if_neg (by omega), if_pos rfl]
theorem apD_4 (q : Nat) (ps : Nat → List Nat) : apD q ps (q + 4) = [] := by unfold apD; rw [if_neg (by omega), if_neg (by omega), if_neg (by omega), if_neg (by omega), if_pos rfl]
theorem apD_5 (q : Nat) (ps : Nat → List Nat) : apD q ps (q + 5) = [q + 2, q + 4] := by unfold apD; rw [if_neg (by omega), if_neg (by omega), if_neg (by omega), if_neg (by omega), if_neg (by omega), if_pos rfl]
theorem apD_6 (q : Nat) (ps : Nat → List Nat) : apD q ps (q + 6) = [q + 3] := by unfold apD; rw [if_neg (by omega), if_neg (by omega), if_neg (by omega), if_neg (by omega), if_neg (by omega), if_neg (by omega), if_pos rfl]

def apS (q : Nat) (Rg : World → Option Addr → Nat → Nat → Value → Prop) (C : Nat) (b : Bool) (i : Nat) (c : Nat → Value) (W : World) : Prop :=
 (i = q → ∃ o l k e, c q = .tuple #[.agg #[.slice o l k], e] ∧ Rg W o l k e) ∧
 (i = q + 1 → c (q + 1) = c q) ∧
 (i = q + 2 → ∃ u e, c (q + 1) = .tuple #[u, e] ∧ c (q + 2) = u) ∧
 (i = q + 3 → ∃ u e, c (q + 1) = .tuple #[u, e] ∧ c (q + 3) = e) ∧
 (i = q + 4 → ∃ B, c (q + 4) = .pointer (some ⟨B, 0, none⟩) ∧ C ≤ B ∧ (b = false → One W B (.slice none 0 0))) ∧
 (i = q + 5 → ∃ B u, c (q + 4) = .pointer (some ⟨B, 0, none⟩) ∧ c (q + 2) = .agg #[u] ∧ C ≤ B ∧ One W B u) ∧
 (i = q + 6 → c (q + 6) = c (q + 3))

section
variable {q : Nat} {Rg : World → Option Addr → Nat → Nat → Value → Prop} {C : Nat} {b : Bool} {c : Nat → Value} {W : World}

theorem apS_p {i : Nat} (hi : i < q) : apS q Rg C b i c W := ⟨fun e => absurd e (by omega), fun e => absurd e (by omega), fun e => absurd e (by omega), fun e => absurd e (by omega), fun e => absurd e (by omega), fun e => absurd e (by omega), fun e => absurd e (by omega)⟩

theorem apS_0 (h : ∃ o l k e, c q = .tuple #[.agg #[.slice o l k], e] ∧ Rg W o l k e) : apS q Rg C b q c W := ⟨fun _ => h, fun e => absurd e (by omega), fun e => absurd e (by omega), fun e => absurd e (by omega), fun e => absurd e (by omega), fun e => absurd e (by omega), fun e => absurd e (by omega)⟩

theorem apS_1 (h : c (q + 1) = c q) : apS q Rg C b (q + 1) c W := ⟨fun e => absurd e (by omega), fun _ => h, fun e => absurd e (by omega), fun e => absurd e (by omega), fun e => absurd e (by omega), fun e => absurd e (by omega), fun e => absurd e (by omega)⟩

theorem apS_2 (h : ∃ u e, c (q + 1) = .tuple #[u, e] ∧ c (q + 2) = u) : apS q Rg C b (q + 2) c W := ⟨fun e => absurd e (by omega), fun e => absurd e (by omega), fun _ => h, fun e => absurd e (by omega), fun e => absurd e (by omega), fun e => absurd e (by omega), fun e => absurd e (by omega)⟩

theorem apS_3 (h : ∃ u e, c (q + 1) = .tuple #[u, e] ∧ c (q + 3) = e) : apS q Rg C b (q + 3) c W := ⟨fun e => absurd e (by omega), fun e => absurd e (by omega), fun e => absurd e (by omega), fun _ => h, fun e => absurd e (by omega), fun e => absurd e (by omega), fun e => absurd e (by omega)⟩

theorem apS_4 (h : ∃ B, c (q + 4) = .pointer (some ⟨B, 0, none⟩) ∧ C ≤ B ∧ (b = false → One W B (.slice none 0 0))) : apS q Rg C b (q + 4) c W := ⟨fun e => absurd e (by omega), fun e => absurd e (by omega), fun e => absurd e (by omega), fun e => absurd e (by omega), fun _ => h, fun e => absurd e (by omega), fun e => absurd e (by omega)⟩

theorem apS_5 (h : ∃ B u, c (q + 4) = .pointer (some ⟨B, 0, none⟩) ∧ c (q + 2) = .agg #[u] ∧ C ≤ B ∧ One W B u) : apS q Rg C b (q + 5) c W := ⟨fun e => absurd e (by omega), fun e => absurd e (by omega), fun e => absurd e (by omega), fun e => absurd e (by omega), fun e => absurd e (by omega), fun _ => h, fun e => absurd e (by omega)⟩

theorem apS_6 (h : c (q + 6) = c (q + 3)) : apS q Rg C b (q + 6) c W := ⟨fun e => absurd e (by omega), fun e => absurd e (by omega), fun e => absurd e (by omega), fun e => absurd e (by omega), fun e => absurd e (by omega), fun e => absurd e (by omega), fun _ => h⟩

end

theorem apStays (q : Nat) (ps : Nat → List Nat) (Rg : World → Option Addr → Nat → Nat → Value → Prop) (hRg : ∀ W W' o l k e, Below W.heap.size W W' → Rg W o l k e → Rg W' o l k e) (C : Nat) (b : Bool) : Stays (apD q ps) (apS q Rg C b) where
 later := fun i c W W' hb h => by
  obtain ⟨h0, h1, h2, h3, h4, h5, h6⟩ := h
  refine ⟨fun e => ?_, h1, h2, h3, fun e => ?_, fun e => ?_, h6⟩
  ·obtain ⟨o, l, k, e', a1, a2⟩ := h0 e
   exact ⟨o, l, k, e', a1, hRg _ _ _ _ _ _ hb a2⟩
  ·obtain ⟨B, a1, a2, a3⟩ := h4 e
   exact ⟨B, a1, a2, fun hf => (a3 hf).later hb⟩
  ·obtain ⟨B, u, a1, a2, a3, a4⟩ := h5 e
   exact ⟨B, u, a1, a2, a3, a4.later hb⟩
 other := fun i j c v W hne hm h => by
  obtain ⟨h0, h1, h2, h3, h4, h5, h6⟩ := h
  refine ⟨fun e => ?_, fun e => ?_, fun e => ?_, fun e => ?_, fun e => ?_, fun e => ?_, fun e => ?_⟩
  ·subst e
   rw [upd_ne _ _ hne]; exact h0 rfl
  ·subst e
   have h : ¬ i = q := by rw [apD_1] at hm; simpa using hm
   rw [upd_ne _ _ hne, upd_ne _ _ (fun e => h e.symm)]; exact h1 rfl
  ·subst e
   have h : ¬ i = q + 1 := by rw [apD_2] at hm; simpa using hm
   rw [upd_ne _ _ hne, upd_ne _ _ (fun e => h e.symm)]; exact h2 rfl
  ·subst e
   have h : ¬ i = q + 1 := by rw [apD_3] at hm; simpa using hm
   rw [upd_ne _ _ hne, upd_ne _ _ (fun e => h e.symm)]; exact h3 rfl
  ·subst e
   rw [upd_ne _ _ hne]; exact h4 rfl
  ·subst e
   have h : ¬ i = q + 2 ∧ ¬ i = q + 4 := by rw [apD_5] at hm; simpa using hm
   rw [upd_ne _ _ (fun e => h.2 e.symm), upd_ne _ _ (fun e => h.1 e.symm)]; exact h5 rfl
  ·subst e
   have h : ¬ i = q + 3 := by rw [apD_6] at hm; simpa using hm
   rw [upd_ne _ _ hne, upd_ne _ _ (fun e => h e.symm)]; exact h6 rfl

theorem ap_fin {q : Nat} {ps : Nat → List Nat} {Rg : World → Option Addr → Nat → Nat → Value → Prop} {C : Nat} {kv : Nat → Option Value} {w : World} {L : Array Bool} {c : Nat → Value} {W : World} (R : FS (apD q ps) kv (apS q Rg C true) w L c W) (hall : ∀ i, i < q + 7 → L.getD i false = true) :
  ∃ B o l k e, c (q + 4) = .pointer (some ⟨B, 0, none⟩) ∧ c (q + 6) = e ∧ C ≤ B ∧ One W B (.slice o l k) ∧ Rg W o l k e := by
 obtain ⟨o, l, k, e, e0, hR⟩ := (R.spec q (hall q (by omega))).1 rfl
 have e1 := (R.spec (q + 1) (hall (q + 1) (by omega))).2.1 rfl
 obtain ⟨u, f, e2, e2'⟩ := (R.spec (q + 2) (hall (q + 2) (by omega))).2.2.1 rfl
 obtain ⟨u3, f3, e3, e3'⟩ := (R.spec (q + 3) (hall (q + 3) (by omega))).2.2.2.1 rfl
 obtain ⟨B, u5, e5, e5', hB, hO⟩ := (R.spec (q + 5) (hall (q + 5) (by omega))).2.2.2.2.2.1 rfl
 have e6 := (R.spec (q + 6) (hall (q + 6) (by omega))).2.2.2.2.2.2 rfl
 rw [e1, e0] at e2 e3
 simp only [Value.tuple.injEq, Array.mk.injEq, List.cons.injEq, and_true] at e2 e3
 obtain ⟨rfl, -⟩ := e2
 obtain ⟨-, rfl⟩ := e3
 rw [e2'] at e5'
 simp only [Value.agg.injEq, Array.mk.injEq, List.cons.injEq, and_true] at e5'
 subst e5'
 exact ⟨B, o, l, k, _, e5, e6.trans e3', hB, hO, hR⟩

def CatG (r : Nat × List Nmd) (W : World) (o : Option Addr) (l k : Nat) (e : Value) : Prop :=
 (r.1 ≠ 0 ∧ o = none ∧ l = 0 ∧ k = 0 ∧ e = errV r.1) ∨ (r.1 = 0 ∧ e = .nilIface ∧ ∃ qs : List Nc, qs.map (·.x) = r.2 ∧ CatN W (.slice o l k) qs)

theorem CatG.later {r : Nat × List Nmd} (W W' : World) (o : Option Addr) (l k : Nat) (e : Value) (hb : Below W.heap.size W W') (h : CatG r W o l k e) : CatG r W' o l k e := by
 rcases h with h | ⟨h1, h2, qs, h3, h4⟩
 ·exact .inl h
 ·exact .inr ⟨h1, h2, qs, h3, h4.below hb⟩

theorem CatG.put {r : Nat × List Nmd} (hr : r.1 = 0 → ∀ x ∈ r.2, NmOk x) {W : World} {B : Nat} {o : Option Addr} {l k : Nat} {e : Value} (hB : One W B (.slice none 0 0)) (x : Value) (h : CatG r W o l k e) : CatG r (W.setCell ⟨B, 0, none⟩ x) o l k e := by
 rcases h with h | ⟨h1, h2, qs, h3, h4⟩
 ·exact .inl h
 ·exact .inr ⟨h1, h2, qs, h3, h4.setOne (nonE_of_ok (by rw [h3]; exact hr h1)) hB.1 x⟩

theorem catN_noRow {W : World} {u : Value} {ps : List Nc} (h : CatN W u ps) {g : List Int} (hg : g ≠ []) : ¬ RowS W u g := fun hr => by
 obtain ⟨ao, cap, e, -, hh⟩ := h
 obtain ⟨bo, cap', e2, -, -, hh2⟩ := hr
 rw [e] at e2
 simp only [Value.slice.injEq] at e2
 obtain ⟨rfl, hl, -⟩ := e2
 have h0 : 0 < g.length := List.length_pos_iff.2 hg
 obtain ⟨b, off, rfl, -, hc⟩ := hh (by omega)
 obtain ⟨b', off', e3, -, hc2⟩ := hh2 h0
 simp only [Option.some.injEq, Addr.mk.injEq, and_true] at e3
 obtain ⟨rfl, rfl⟩ := e3
 have k1 := (hc 0 ps[0] (List.getElem?_eq_getElem (by omega))).1
 have k2 := hc2 0 h0
 rw [Nat.zero_mul, Nat.add_zero] at k1
 rw [Nat.add_zero, k1] at k2
 cases k2

theorem RowS.setVar {W : World} {v : Value} {ks : List Int} (h : RowS W v ks) {p : Addr} {o : Option Addr} {l c : Nat} (hc : W.cell? p = some (.slice o l c)) (x : Value) : RowS (W.setCell p x) v ks := by
 obtain ⟨ao, cap, e, hn, h6, hh⟩ := h
 refine ⟨ao, cap, e, hn, h6, fun h0 => ?_⟩
 obtain ⟨b, off, e', hlt, hcell⟩ := hh h0
 refine ⟨b, off, e', by simpa using hlt, fun i hi => (World.cell?_setCell_other _ _ _ _ fun e => ?_).trans (hcell i hi)⟩
 have := hcell i hi
 rw [← e, hc] at this; cases this

theorem CatN.setVar {W : World} {v : Value} {qs : List Nc} (h : CatN W v qs) (hne : NonE qs) {B : Nat} {u : Value} {ps : List Nc} (hc : W.cell? ⟨B, 0, none⟩ = some u) (hu : CatN W u ps) (x : Value) : CatN (W.setCell ⟨B, 0, none⟩ x) v qs := by
 have hno := fun g (hg : g ≠ []) => catN_noRow (g := g) hu hg
 obtain ⟨uo, uc, rfl, -⟩ := hu
 obtain ⟨ao, cap, e, hn, hh⟩ := h
 refine ⟨ao, cap, e, hn, fun h0 => ?_⟩
 obtain ⟨b, off, e', hlt, hcell⟩ := hh h0
 refine ⟨b, off, e', by simpa using hlt, fun i q hi => ?_⟩
 obtain ⟨h1, h2, h3, h4⟩ := hcell i q hi
 refine ⟨(World.cell?_setCell_other _ _ _ _ fun e => ?_).trans h1, (World.cell?_setCell_other _ _ _ _ fun e => ?_).trans h2, (World.cell?_setCell_other _ _ _ _ fun e => ?_).trans h3, ?_⟩
 ·rw [← e, hc] at h1; cases h1
 ·rw [← e, hc] at h2; cases h2
 ·have := congrArg Addr.off e
  simp at this
 ·have hq := hne q (List.mem_of_getElem? hi)
  obtain ⟨go, gc, ge, gn, gh⟩ := h4
  refine ⟨go, gc, ge, gn, fun g0 => ?_⟩
  obtain ⟨gb, goff, ge', glt, gcell⟩ := gh g0
  refine ⟨gb, goff, ge', by simpa using glt, fun j r hj => ?_⟩
  obtain ⟨u2, hu2, hr2⟩ := gcell j r hj
  refine ⟨u2, (World.cell?_setCell_other _ _ _ _ fun e => ?_).trans hu2, hr2.setVar hc x⟩
  rw [← e, hc] at hu2
  simp only [Option.some.injEq] at hu2
  rw [← hu2] at hr2
  exact hno r (hq r (List.mem_of_getElem? hj)) hr2

theorem catG_of {w w' : World} {r : Nat × List Nmd} {e : Ending} (h : CatRes w r e w') : ∃ o l k ev, e = .returned (.tuple #[.agg #[.slice o l k], ev]) ∧ CatG r w' o l k ev ∧ Below w.heap.size w w' := by
 obtain ⟨h | ⟨h1, u, qs, h2, h3, v, rfl, h4⟩, hb⟩ := h
 ·exact ⟨none, 0, 0, _, h.2, .inl ⟨h.1, rfl, rfl, rfl, rfl⟩, hb⟩
 ·obtain ⟨o, c, rfl, -⟩ := id h4
  exact ⟨o, _, c, _, h2, .inr ⟨h1, rfl, qs, h3, h4⟩, hb⟩

theorem One.write {W : World} {B : Nat} {u : Value} (h : One W B u) (x : Value) : One (W.setCell ⟨B, 0, none⟩ x) B x :=
 ⟨World.cell?_setCell_same (h := h.1) .., by simpa using h.2.1, by simpa using h.2.2⟩

end Go.Proofs.YtmalhbkmfddhoaaDoor

/- Bytes under construction: an operation's bytes, without memory; a list of bytes of one's own that grows. -/
namespace Go.Proofs.YtmalhbkmfddhoaaDoor
open Go.RowKit

def lowB (z : Int) : UInt8 := UInt8.ofNat (z % 256).toNat

theorem lowB_nat (z : Int) : ((lowB z).toNat : Int) = z % 256 := by
 unfold lowB
 have h0 : 0 ≤ z % 256 := Int.emod_nonneg _ (by decide)
 have h1 : z % 256 < 256 := Int.emod_lt_of_pos _ (by decide)
 rw [UInt8.toNat_ofNat']
 omega

def twoB (z : Int) : List UInt8 := [lowB z, lowB (z / 256)]

def shapeB (o : OpV) : Bool := decide (1 ≤ o.kind ∧ o.kind ≤ 4) && nmOk o.name && decide (0 ≤ o.n ∧ o.n ≤ 4) && decide (o.v.length ≤ 4)

def bigB (o : OpV) : Bool := o.v.any fun z => decide (z < -999 ∨ 999 < z)

def opF (o : OpV) : Nat := if shapeB o = false then 3 else if bigB o then 1 else 0

def headB (o : OpV) : List UInt8 := [lowB o.kind, lowB o.name.size] ++ o.name.data.toList ++ [lowB o.n, lowB o.v.length]

def opB (o : OpV) : List UInt8 := headB o ++ o.v.flatMap twoB

def opS (o : OpV) : ByteArray := if opF o = 0 then ⟨(opB o).toArray⟩ else ⟨#[]⟩

theorem Tryd.infoU8 : (Tryd.prog.info? 5).map (fun i => (i.zero, i.size, i.bytes)) = some (some (.int .u8 0), 1, 1) := by kernel_rfl

def BufB (base : Nat) (W : World) (v : Value) (l : List UInt8) : Prop := W.ownsRow base 5 1 v l.length (Lib.byteCells l)

theorem BufB.form {base : Nat} {W : World} {v : Value} {l : List UInt8} (h : BufB base W v l) : ∃ o c, v = .slice o l.length c := by
 obtain ⟨o, c, e, -⟩ := owns_form h
 exact ⟨o, c, e⟩

theorem BufB.len {base : Nat} {W : World} {o : Option Addr} {n c : Nat} {l : List UInt8} (h : BufB base W (.slice o n c) l) : n = l.length := by
 obtain ⟨o', c', e⟩ := h.form
 simp only [Value.slice.injEq] at e
 exact e.2.1

theorem BufB.later {base : Nat} {W W' : World} {v : Value} {l : List UInt8} (h : BufB base W v l) (hb : Below W.heap.size W W') : BufB base W' v l := ownsRow_later h hb

theorem cell_lowB (z : Int) : Value.int .u8 ((lowB z).toNat : Int) = .int .u8 (z % 256) := by rw [lowB_nat]

theorem BufB.two (W : World) (a b : Int) : BufB W.heap.size (W.alloc (.cells #[.int .u8 (a % 256), .int .u8 (b % 256)] 5)) (.slice (some ⟨W.heap.size, 0, none⟩) 2 2) [lowB a, lowB b] := by
 refine ⟨by simp [Lib.byteCells], .inr ⟨W.heap.size, 2, _, rfl, Nat.le_refl _, heap_alloc_new W _, Nat.le_refl _, by unfold maxLen; decide, rfl, ?_⟩⟩
 simp only [Lib.byteCells, List.map_cons, List.map_nil, cell_lowB]
 rfl

theorem BufB.str {W : World} {base : Nat} {v : Value} {l : List UInt8} (h : BufB base W v l) (hbase : base ≤ W.heap.size) (s : ByteArray) (ty : TypeId) (hl : l.length + s.size ≤ 1000000) :
  ∃ o c W', (Builtin.append_ #[53, 9] ty #[v, .string s]).run Tryd.prog W = .ok (.slice o (l ++ s.data.toList).length c) W' ∧ BufB base W' (.slice o (l ++ s.data.toList).length c) (l ++ s.data.toList) ∧ Below base W W' := by
 obtain ⟨j0, hj, hy0, hy1, hy2⟩ := info_got Tryd.infoU8
 obtain ⟨v', W', hr, hown, hg, -⟩ := Lib.run_append_own_string (P := Tryd.prog) W base 53 9 ty 5 j0 (by kernel_rfl) (by kernel_rfl) hj hy0 hy1 hy2 v l.length _ h s (by unfold maxLen; omega) (by omega) hbase
 have e1 : l.length + s.size = (l ++ s.data.toList).length := by rw [List.length_append, Array.length_toList]; rfl
 have e2 : Lib.byteCells l ++ Lib.strCells s = Lib.byteCells (l ++ s.data.toList) := by simp [Lib.byteCells, Lib.strCells]
 rw [e1, e2] at hown
 obtain ⟨o, c, rfl, -⟩ := owns_form hown
 exact ⟨o, c, W', hr, hown, (Below.refl base W).grown hg hbase (fun k hk => (World.ownsRow.lt h k hk).1)⟩

theorem BufB.more {W : World} {base : Nat} {v : Value} {l : List UInt8} (h : BufB base W v l) (hbase : base ≤ W.heap.size) (m : List UInt8) (cs : Array Value) (hcs : cs.toList = Lib.byteCells m) (ty tb : TypeId) (hl : l.length + m.length ≤ 1000000) :
  ∃ o c W', (Builtin.append_ #[53, 53] ty #[v, .slice (some ⟨W.heap.size, 0, none⟩) m.length m.length]).run Tryd.prog (W.alloc (.cells cs tb)) = .ok (.slice o (l ++ m).length c) W' ∧ BufB base W' (.slice o (l ++ m).length c) (l ++ m) ∧ Below base W W' := by
 obtain ⟨j0, hj, hy0, hy1, hy2⟩ := info_got Tryd.infoU8
 obtain ⟨v', W', hr, hown, hg, -⟩ := run_append_own (P := Tryd.prog) (W.alloc (.cells cs tb)) base 53 ty 5 j0 (.int .u8 0) 1 1 (by kernel_rfl) hj hy0 hy1 hy2 rfl (by decide) v l.length _ (World.ownsRow.alloc h _) ⟨W.heap.size, 0, none⟩ m.length m.length (Lib.byteCells m) (by simp [Lib.byteCells]) (by rw [← hcs]; exact World.news_of_block (heap_alloc_new W _)) (fun y hy => by
  simp only [Lib.byteCells, List.mem_map] at hy
  obtain ⟨b, -, rfl⟩ := hy
  rfl) (by unfold maxLen; omega) (by omega) (by simp; omega)
 have e1 : l.length + m.length = (l ++ m).length := by rw [List.length_append]
 have e2 : Lib.byteCells l ++ Lib.byteCells m = Lib.byteCells (l ++ m) := by simp [Lib.byteCells]
 rw [e1, e2] at hown
 obtain ⟨o, c, rfl, -⟩ := owns_form hown
 exact ⟨o, c, W', hr, hown, owns_below h hbase hg⟩

theorem BufB.back {W : World} {base : Nat} {o : Option Addr} {c : Nat} {l : List UInt8} (h : BufB base W (.slice o l.length c) l) (h0 : 0 < l.length) : (convert 53 9 (.slice o l.length c)).run Tryd.prog W = .ok (.string ⟨l.toArray⟩) W := by
 rcases h.2 with ⟨e, -⟩ | ⟨g, cap, cur, e, -, hg, -, -, -, -⟩
 ·simp only [Value.slice.injEq] at e
  omega
 ·simp only [Value.slice.injEq, true_and] at e
  obtain ⟨rfl, rfl⟩ := e
  refine run_convert_bytes_back W 53 9 5 ⟨g, 0, none⟩ c l (by kernel_rfl) (by kernel_rfl) (by kernel_rfl) fun j hj => ?_
  have := World.ownsRow.cells (g := g) h rfl j _ (show (Lib.byteCells l)[j]? = some (.int .u8 (l[j].toNat : Int)) by simp [Lib.byteCells, hj])
  exact this

end Go.Proofs.YtmalhbkmfddhoaaDoor

/- pack: has each part of an operation room in its bytes? -/
namespace Go.Proofs.YtmalhbkmfddhoaaDoor
open Go.RowKit

set_option linter.unusedSimpArgs false in
set_option maxRecDepth 100000 in
set_option maxHeartbeats 1600000 in
theorem shapedP_any (w : World) (o : OpV) (vo : Option Addr) (vc : Nat) :
  Calls Tryd.prog 16 #[.agg #[.int .i64 o.kind, .string o.name, .int .i64 o.n, .slice vo o.v.length vc]] w fun e w' => e = .returned (.bool (shapeB o)) ∧ Below w.heap.size w w' := by
 have hf := FourV.new w (.int .i64 o.kind) (.string o.name) (.int .i64 o.n) (.slice vo o.v.length vc) 36
 have HB0 := hide (alloc_below w (.cells #[.int .i64 o.kind, .string o.name, .int .i64 o.n, .slice vo o.v.length vc] 36))
 obtain ⟨c0, c1, c2, c3, -⟩ := hf
 generalize hr : shapeB o = r
 unfold shapeB at hr
 generalize o.kind = k at *
 generalize o.n = n at *
 generalize o.v.length = l at *
 by_cases hk : 1 ≤ k ∧ k ≤ 4
 ·rw [decide_eq_true hk, Bool.true_and] at hr
  cases hn : nmOk o.name with
  | false =>
   rw [hn, Bool.false_and, Bool.false_and] at hr
   subst hr
   rcases (by omega : k = 1 ∨ k = 2 ∨ k = 3 ∨ k = 4) with rfl | rfl | rfl | rfl <;>
   ·clear hk
    go_enter Tryd.func16, Tryd.ntmps16
    go_wp2_with fail
    refine (name_any o.name _).mono ?_
    rintro e w1 ⟨rfl, rfl⟩
    rw [hn]
    go_wp2
    go_ret
    exact ⟨rfl, HB0.out⟩
  | true =>
   rw [hn, Bool.true_and] at hr
   have H : Hid (r = (decide (0 ≤ n ∧ n ≤ 4) && decide (l ≤ 4))) := hr.symm
   clear hr
   obtain ⟨b0, h0⟩ : ∃ b0, decide ((0 : Int) ≤ n) = b0 := ⟨_, rfl⟩
   obtain ⟨b1, h1⟩ : ∃ b1, decide (n ≤ 4) = b1 := ⟨_, rfl⟩
   obtain ⟨b2, h2⟩ : ∃ b2, decide ((l : Int) ≤ 4) = b2 := ⟨_, rfl⟩
   have HE : Hid (r = (b0 && b1 && b2)) := by
    show _ = _
    rw [H.out, ← h0, ← h1, ← h2]
    by_cases a0 : 0 ≤ n <;> by_cases a1 : n ≤ 4 <;> by_cases a2 : l ≤ 4 <;> simp [a0, a1, a2] <;> omega
   clear H
   rcases (by omega : k = 1 ∨ k = 2 ∨ k = 3 ∨ k = 4) with rfl | rfl | rfl | rfl <;>
   ·clear hk
    go_enter Tryd.func16, Tryd.ntmps16
    go_wp2_with fail
    refine (name_any o.name _).mono ?_
    rintro e w1 ⟨rfl, rfl⟩
    rw [hn]
    clear hn
    cases b0 <;> cases b1 <;> cases b2 <;>
    ·go_wp2
     go_ret
     exact ⟨by rw [HE.out]; rfl, HB0.out⟩
 ·rw [decide_eq_false hk, Bool.false_and, Bool.false_and, Bool.false_and] at hr
  subst hr
  have g1 : (k == 1) = false := beq_eq_false_iff_ne.2 (by omega)
  have g2 : (k == 2) = false := beq_eq_false_iff_ne.2 (by omega)
  have g3 : (k == 3) = false := beq_eq_false_iff_ne.2 (by omega)
  have g4 : (k == 4) = false := beq_eq_false_iff_ne.2 (by omega)
  clear hk
  go_enter Tryd.func16, Tryd.ntmps16
  go_wp2
  go_ret
  exact ⟨rfl, HB0.out⟩

end Go.Proofs.YtmalhbkmfddhoaaDoor
