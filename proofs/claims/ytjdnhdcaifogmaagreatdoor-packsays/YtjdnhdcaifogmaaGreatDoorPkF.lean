/- The reference: a catalog of a text: its walk. -/
import Derived.Test.YtjdnhdcaifogmaaGreatDoorPkE
import Derived.Test.YtjdnhdcaifogmaaGreatDoorBpD
namespace Go.Proofs.YtjdnhdcaifogmaaGreatDoor
open Go.RowKit

set_option linter.unusedSimpArgs false in
set_option maxRecDepth 100000 in
set_option maxHeartbeats 3200000 in
theorem catalogOf_any (w : World) (s : ByteArray) (hs : s.size ≤ 100000) : Calls Tryz.prog 10 #[.string s] w fun e w' => CatOfP w s e w' := by
 have hw10 := wordsC_any w s 10 hs
 have e10 : (((10 : UInt8).toNat : Nat) : Int) = 10 := rfl
 rw [e10] at hw10
 obtain ⟨LS, hLS⟩ : ∃ LS, (pcs 10 s.data.toList).map bytesP = LS := ⟨_, rfl⟩
 rw [hLS] at hw10
 have hsl : s.data.toList.length = s.size := by simp
 have HLZ : Hid (∀ (i : Nat) (l : ByteArray), LS[i]? = some l → l.size ≤ s.size) := fun i l hl => by
  rw [← hLS, List.getElem?_map] at hl
  cases hp : (pcs 10 s.data.toList)[i]? with
  | none => rw [hp] at hl; cases hl
  | some p =>
   rw [hp] at hl
   have := pcs_size 10 _ p (List.mem_of_getElem? hp)
   have e : l = bytesP p := (Option.some.inj hl).symm
   rw [e, bytesP_size, ← hsl]
   exact this
 have HGL : Hid (∀ cs, CatOk cs → s = bytesP (textC cs) → LS = (cs.map lineB ++ [[]]).map bytesP) := fun cs hc h => by
  have e : s.data.toList = textC cs := by rw [h]; simp [bytesP]
  rw [← hLS, e, lines_of hc.all]
 obtain ⟨n1, hn1⟩ : ∃ n1, LS.length = n1 := ⟨_, rfl⟩
 have hn1b : n1 ≤ 100001 := by
  have := pcs_count 10 s.data.toList
  rw [← hn1, ← hLS, List.length_map]
  omega
 have HN1 := hide hn1; have HW10 := hide hw10
 clear hw10 e10 hLS hn1 hsl
 go_enter Tryz.func10, Tryz.ntmps10
 go_wp2_with fail
 refine HW10.out.mono ?_
 rintro e w1 ⟨lv, rfl, hls, hb1⟩
 obtain ⟨lo, lc, rfl, -⟩ := id hls
 have HLS := hide hls; have HB1 := hide hb1
 rw [HN1.out]
 clear hls hb1 HW10
 go_wp2_with fail
 go_loopw [4, 6] (fun cv ix wr => ∃ (i : Nat) (co : Option Addr) (ck : Nat) (qs : List Nc), i ≤ n1 ∧ ix = .int .i64 i ∧ cv = .slice co qs.length ck ∧ Hid (CatN wr (.slice co qs.length ck) qs) ∧ Hid (CatOk (qs.map (·.x))) ∧ Hid (∀ cs, CatOk cs → s = bytesP (textC cs) → i ≤ cs.length ∧ qs.map (·.x) = cs.take i) ∧ Hid (Below w1.heap.size w1 wr)) (fun _ ix _ => n1 - (intOf ix).toNat)
 case atStart => exact ⟨0, none, 0, [], Nat.zero_le _, rfl, rfl, hide (catN_nil w1), hide catOk_nil, hide (fun cs _ _ => ⟨Nat.zero_le _, rfl⟩), hide (Below.refl _ _)⟩
 case round =>
  obtain ⟨i, co, ck, qs, hi, rfl, rfl, HC, HOK, HG, HB⟩ := hrel
  by_cases hil : i + 1 < n1
  ·have gil : decide ((i : Int) + 1 < (n1 : Int)) = true := decide_eq_true (by omega)
   obtain ⟨ln, hln⟩ : ∃ ln, LS[i]? = some ln := ⟨_, List.getElem?_eq_getElem (by rw [HN1.out]; omega)⟩
   have hlz := HLZ.out i ln hln
   obtain ⟨b5, o5, c5, e, hlt5, cl⟩ := (HLS.out.below HB.out).at hln
   rw [HN1.out] at e
   simp only [Value.slice.injEq, true_and] at e
   obtain ⟨rfl, rfl⟩ := e
   have hw32 := wordsC_any wr ln 32 (by omega)
   have e32 : (((32 : UInt8).toNat : Nat) : Int) = 32 := rfl
   rw [e32] at hw32
   obtain ⟨WS, hWS⟩ : ∃ WS, (pcs 32 ln.data.toList).map bytesP = WS := ⟨_, rfl⟩
   rw [hWS] at hw32
   have HG1 : Hid (∀ cs, CatOk cs → s = bytesP (textC cs) → ∃ x, cs[i]? = some x ∧ WS = x.name :: tokJ x.n (decide (0 < x.gens.length)) :: toksG x.gens) := fun cs hc h => by
    have e := HGL.out cs hc h
    have hl : n1 = cs.length + 1 := by rw [← HN1.out, e]; simp
    have hic : i < cs.length := by omega
    rw [e, List.getElem?_map, List.getElem?_append_left (by rw [List.length_map]; exact hic), List.getElem?_map, List.getElem?_eq_getElem hic] at hln
    have el : ln = bytesP (lineB cs[i]) := (Option.some.inj hln).symm
    have hxo := hc.all cs[i] (List.getElem_mem hic)
    refine ⟨cs[i], List.getElem?_eq_getElem hic, ?_⟩
    rw [← hWS, el]
    have ed : (bytesP (lineB cs[i])).data.toList = lineB cs[i] := by simp [bytesP]
    rw [ed]
    exact line_toks hxo (gens_ne hxo)
   have HWZ : Hid (∀ (k : Nat) (t : ByteArray), WS[k]? = some t → t.size ≤ 100000) := fun k t ht => by
    rw [← hWS, List.getElem?_map] at ht
    cases hp : (pcs 32 ln.data.toList)[k]? with
    | none => rw [hp] at ht; cases ht
    | some p =>
     rw [hp] at ht
     have h1 := pcs_size 32 _ p (List.mem_of_getElem? hp)
     have e : t = bytesP p := (Option.some.inj ht).symm
     have h2 : ln.data.toList.length = ln.size := by simp
     rw [e, bytesP_size]
     omega
   obtain ⟨nw, hnw⟩ : ∃ nw, WS.length = nw := ⟨_, rfl⟩
   have hnwb : nw ≤ 100001 := by
    have := pcs_count 32 ln.data.toList
    have e : ln.data.toList.length = ln.size := by simp
    rw [← hnw, ← hWS, List.length_map]
    omega
   have HNW := hide hnw; have HW32 := hide hw32
   clear hw32 e32 hWS hnw hlz hln
   go_wp2_with fail
   refine HW32.out.mono ?_
   rintro e w2 ⟨wv, rfl, hws, hb2⟩
   obtain ⟨wo, wk, rfl, -⟩ := id hws
   have HWS := hide hws
   have HC2 := hide (HC.out.below hb2); have HB2 := hide (HB.out.trans (hb2.mono HB.out.size))
   rw [HNW.out]
   clear hws hb2 HW32 cl HC HB
   by_cases hn2 : nw < 2
   ·have gn2 : decide ((nw : Int) < 2) = true := decide_eq_true (by omega)
    have HBAD : Hid (∀ cs, CatOk cs → s ≠ bytesP (textC cs)) := fun cs hc h => by
     obtain ⟨x, -, e⟩ := HG1.out cs hc h
     have := congrArg List.length e
     rw [HNW.out, List.length_cons, List.length_cons] at this
     omega
    have HBB := hide (HB1.out.trans (HB2.out.mono HB1.out.size))
    clear hn2
    go_wp2
    go_ret2
    exact ⟨.inl ⟨HBAD.out, rfl⟩, HBB.out⟩
   have gn2 : decide ((nw : Int) < 2) = false := decide_eq_false (by omega)
   obtain ⟨t0, ht0⟩ : ∃ t, WS[0]? = some t := ⟨_, List.getElem?_eq_getElem (by rw [HNW.out]; omega)⟩
   obtain ⟨t1, ht1⟩ : ∃ t, WS[1]? = some t := ⟨_, List.getElem?_eq_getElem (by rw [HNW.out]; omega)⟩
   obtain ⟨b7, o7, c7, e, hlt7, cw1⟩ := HWS.out.at ht1
   rw [HNW.out] at e
   simp only [Value.slice.injEq, true_and] at e
   obtain ⟨rfl, rfl⟩ := e
   obtain ⟨b7', o7', c7', e, -, cw0⟩ := HWS.out.at ht0
   simp only [Value.slice.injEq, Option.some.injEq, Addr.mk.injEq, and_true] at e
   obtain ⟨⟨rfl, rfl⟩, -, rfl⟩ := e
   rw [Nat.add_zero] at cw0
   have hz1 := HWZ.out 1 t1 ht1
   have HT0 := hide ht0; have HT1 := hide ht1; have hnw2 : 2 ≤ nw := by omega
   clear ht0 ht1 hn2
   go_upto_region 10 with fail
   go_cut [9] from 41 to 52 (fun v wx => v = .bool (semiB t1) ∧ wx = w2)
   case first =>
    obtain ⟨sb, hsb⟩ : ∃ sb, semiB t1 = sb := ⟨_, rfl⟩
    have HSB := hide hsb
    by_cases hz0 : t1.size = 0
    ·have g9 : decide (0 < (t1.size : Int)) = false := decide_eq_false (by omega)
     have g9n : ¬ 0 < t1.size := by omega
     have hf : sb = false := by rw [← hsb]; unfold semiB; rw [decide_eq_false (by omega)]; rfl
     subst hf
     clear hsb hz0
     go_wp2_with fail
     go_meet
     case rel => exact ⟨by rw [HSB.out], rfl⟩
    ·have g9 : decide (0 < (t1.size : Int)) = true := decide_eq_true (by omega)
     have g9n : 0 < t1.size := by omega
     obtain ⟨p, hp⟩ : ∃ p, t1.size - 1 = p := ⟨_, rfl⟩
     have gp : (t1.size : Int) - 1 = (p : Int) := by omega
     have hpl : p < t1.size := by omega
     have wp : IntKind.i64.wrap (p : Int) = (p : Int) := wrap_small (by omega) (by omega)
     have bq := byt_eq (s := t1) (k := p) hpl
     have hs2 : (byt t1 p == 59) = sb := by rw [← hsb]; unfold semiB; rw [decide_eq_true (by omega), hp]; rfl
     obtain ⟨bn, hbn, -⟩ := byt_nat t1 p
     rw [hbn] at bq hs2
     clear hsb hz0 hp hbn
     cases sb with
     | false =>
      go_wp2_with fail
      go_meet
      case rel => exact ⟨by rw [HSB.out], rfl⟩
     | true =>
      go_wp2_with fail
      go_meet
      case rel => exact ⟨by rw [HSB.out], rfl⟩
   case rest =>
   obtain ⟨rfl, rfl⟩ := hcut
   go_upto_if 52 with fail
   go_cut [9, 8] from 52 to 58 (fun v9 v wx => v9 = .bool (semiB t1) ∧ v = .string (stripB t1) ∧ wx = wc)
   case first =>
    obtain ⟨sb, hsb⟩ : ∃ sb, semiB t1 = sb := ⟨_, rfl⟩
    obtain ⟨tb, htb⟩ : ∃ tb, stripB t1 = tb := ⟨_, rfl⟩
    have HSB := hide hsb
    rw [hsb]
    have HTB := hide htb
    cases sb with
    | false =>
     have e : tb = t1 := by rw [← htb]; unfold stripB; rw [hsb]; rfl
     subst e
     clear htb hsb
     go_wp2_with fail
     go_meet
     case rel => exact ⟨by rw [HSB.out], by rw [HTB.out], rfl⟩
    | true =>
     have e : tb = t1.extract 0 (t1.size - 1) := by rw [← htb]; unfold stripB; rw [hsb]; rfl
     have h0 : 0 < t1.size := by
      unfold semiB at hsb
      simp only [Bool.and_eq_true, decide_eq_true_eq] at hsb
      exact hsb.1
     obtain ⟨p, hp⟩ : ∃ p, t1.size - 1 = p := ⟨_, rfl⟩
     rw [hp] at e
     have gp : (t1.size : Int) - 1 = (p : Int) := by omega
     have hpl : p ≤ t1.size := by omega
     subst e
     clear htb hsb h0 hp
     go_wp2_with fail
     go_meet
     case rel => exact ⟨by rw [HSB.out], by rw [HTB.out], rfl⟩
   case rest =>
   obtain ⟨rfl, rfl, rfl⟩ := hcut
   go_wp2_with fail
   refine (small_any wc (stripB t1)).mono ?_
   rintro e w3 ⟨z, ok, rfl, hzr, hy, hb3⟩
   cases ok with
   | false =>
    have HBAD : Hid (∀ cs, CatOk cs → s ≠ bytesP (textC cs)) := fun cs hc h => by
     obtain ⟨x, x1, e⟩ := HG1.out cs hc h
     have h1 := HT1.out
     rw [e] at h1
     have hxo := hc.all x (List.mem_of_getElem? x1)
     have e1 : t1 = tokJ x.n (decide (0 < x.gens.length)) := (Option.some.inj h1).symm
     have h2 := (hy x.n (by have := hxo.n; omega) (by have := hxo.n; omega) (by rw [e1]; exact (semi_tok _ _).2)).1
     cases h2
    have HBB := hide (HB1.out.trans ((HB2.out.trans (hb3.mono HB2.out.size)).mono HB1.out.size))
    clear hb3 hy
    go_wp2
    go_ret2
    exact ⟨.inl ⟨HBAD.out, rfl⟩, HBB.out⟩
   | true =>
   have HY := hide hy; have HC3 := hide (HC2.out.below hb3)
   have HB3 := hide (HB2.out.trans (hb3.mono HB2.out.size))
   have d0 := (hb3.cell (p := ⟨b7, o7, none⟩) hlt7).trans cw0
   have hlt73 : b7 < w3.heap.size := Nat.lt_of_lt_of_le hlt7 hb3.size
   have HWS3 := hide (HWS.out.below hb3)
   clear hy hb3 cw0 cw1 HC2 HB2 HWS hlt7
   go_wp2_with fail
   refine (applyR_any w3 _ qs ⟨1, t0, z, []⟩ none 0 HC3.out HOK.out ⟨none, 0, rfl, Nat.le_refl _, fun i => by simp, fun h => absurd h (by simp)⟩ (by simp)).mono ?_
   rintro e w4 hres
   rcases refRes_ok hres with ⟨hf, rfl, hb4⟩ | ⟨hf, o4, n4, k4, q4, rfl, hc4, hm4, hb4⟩
   ·have HBAD : Hid (∀ cs, CatOk cs → s ≠ bytesP (textC cs)) := fun cs hc h => by
     obtain ⟨x, x1, e⟩ := HG1.out cs hc h
     have h0 := HT0.out; have h1 := HT1.out
     rw [e] at h0 h1
     have hxo := hc.all x (List.mem_of_getElem? x1)
     have e0 : t0 = x.name := (Option.some.inj h0).symm
     have e1 : t1 = tokJ x.n (decide (0 < x.gens.length)) := (Option.some.inj h1).symm
     have h2 := (HY.out x.n (by have := hxo.n; omega) (by have := hxo.n; omega) (by rw [e1]; exact (semi_tok _ _).2)).2
     have hxt : cs.take (i + 1) = cs.take i ++ [x] := by rw [List.take_succ_eq_append_getElem (List.getElem?_eq_some_iff.1 x1).1, (List.getElem?_eq_some_iff.1 x1).2]
     have hl := last_create (ps := cs.take i) (x := x) (by rw [← hxt]; exact catOk_take hc (i + 1))
     apply hf
     rw [(HG.out cs hc h).2, e0, h2, hl]
    have HBB := hide (HB1.out.trans ((HB3.out.trans (hb4.mono HB3.out.size)).mono HB1.out.size))
    have gf := Nat.pos_of_ne_zero hf
    clear hf hres hb4
    go_wp2
    go_ret2
    exact ⟨.inl ⟨HBAD.out, rfl⟩, HBB.out⟩
   have hl4 : n4 = q4.length := by
    obtain ⟨_, _, e, -⟩ := id hc4
    simp only [Value.slice.injEq] at e
    exact e.2.1
   subst hl4
   have HOK4 : Hid (CatOk (q4.map (·.x))) := by show CatOk _; rw [hm4]; exact applyC_ok HOK.out _ hf
   have HA2 : Hid (At2 s i WS (q4.map (·.x)) (semiB t1) 2) := fun cs hc h => by
    obtain ⟨x, x1, e⟩ := HG1.out cs hc h
    have h0 := HT0.out; have h1 := HT1.out
    rw [e] at h0 h1
    have hxo := hc.all x (List.mem_of_getElem? x1)
    have e0 : t0 = x.name := (Option.some.inj h0).symm
    have e1 : t1 = tokJ x.n (decide (0 < x.gens.length)) := (Option.some.inj h1).symm
    have h2 := (HY.out x.n (by have := hxo.n; omega) (by have := hxo.n; omega) (by rw [e1]; exact (semi_tok _ _).2)).2
    have hxt : cs.take (i + 1) = cs.take i ++ [x] := by rw [List.take_succ_eq_append_getElem (List.getElem?_eq_some_iff.1 x1).1, (List.getElem?_eq_some_iff.1 x1).2]
    have hl := last_create (ps := cs.take i) (x := x) (by rw [← hxt]; exact catOk_take hc (i + 1))
    refine ⟨x, 0, x1, Nat.zero_le _, by rw [e]; rfl, ?_, by rw [e1]; exact (semi_tok _ _).1, by rw [e]; rfl⟩
    rw [hm4, (HG.out cs hc h).2, e0, h2, hl]
    rfl
   have HC4 := hide hc4
   have hb34 : Below w1.heap.size w1 w4 := HB3.out.trans (hb4.mono HB3.out.size)
   have HB4 := hide hb34
   have d0 := (hb4.cell (p := ⟨b7, o7, none⟩) hlt73).trans d0
   have hlt74 : b7 < w4.heap.size := Nat.lt_of_lt_of_le hlt73 hb4.size
   have HWS4 := hide (HWS3.out.below hb4)
   clear hf hres hb4 hb34 hc4 hm4 HC3 HB3 HWS3 HOK HY hzr hlt73
   generalize semiB t1 = m1 at *
   go_wp2_with fail
   generalize hW4 : w4 = W4 at HC4 HB4 d0 hlt74 HWS4 ⊢
   go_loopw [4, 9, 14] (fun cv mv av wr => ∃ (m : Bool) (a : Nat) (co : Option Addr) (ck : Nat) (qs : List Nc), 2 ≤ a ∧ a ≤ nw ∧ mv = .bool m ∧ av = .int .i64 a ∧ cv = .slice co qs.length ck ∧ Hid (CatN wr (.slice co qs.length ck) qs) ∧ Hid (CatOk (qs.map (·.x))) ∧ Hid (At2 s i WS (qs.map (·.x)) m a) ∧ Hid (Below W4.heap.size W4 wr)) (fun _ mv av _ => 2 * (nw - (intOf av).toNat) + boolN mv)
   case atStart => exact ⟨m1, 2, o4, k4, q4, Nat.le_refl _, hnw2, rfl, rfl, rfl, HC4, HOK4, HA2, hide (Below.refl _ _)⟩
   case round =>
    clear HC4 HOK4 HA2
    obtain ⟨m, a, co, ck, qs, ha2, ha, rfl, rfl, rfl, HC, HOK, HA, HBL⟩ := hrel
    have HB5 := hide (HB4.out.trans (HBL.out.mono HB4.out.size))
    cases m with
    | false =>
     by_cases han : a < nw
     ·have ga : decide ((a : Int) < (nw : Int)) = true := decide_eq_true (by omega)
      have HBAD : Hid (∀ cs, CatOk cs → s ≠ bytesP (textC cs)) := fun cs hc h => by
       obtain ⟨x, k, x1, x2, x3, x4, x5, x6⟩ := HA.out cs hc h
       have hk : ¬ k < x.gens.length := fun hk => by rw [decide_eq_true hk] at x5; cases x5
       have hd0 : x.gens.drop k = [] := List.drop_of_length_le (by omega)
       rw [hd0] at x6
       have := congrArg List.length x6
       rw [List.length_drop, HNW.out] at this
       simp [toksG] at this
       omega
      have HBB := hide (HB1.out.trans (HB5.out.mono HB1.out.size))
      go_wp2
      go_ret2
      exact ⟨.inl ⟨HBAD.out, rfl⟩, HBB.out⟩
     ·have ga : decide ((a : Int) < (nw : Int)) = false := decide_eq_false (by omega)
      have HG2 : Hid (∀ cs, CatOk cs → s = bytesP (textC cs) → i + 1 ≤ cs.length ∧ qs.map (·.x) = cs.take (i + 1)) := fun cs hc h => by
       obtain ⟨x, k, x1, x2, x3, x4, x5, x6⟩ := HA.out cs hc h
       have hk : ¬ k < x.gens.length := fun hk => by rw [decide_eq_true hk] at x5; cases x5
       have hic := (List.getElem?_eq_some_iff.1 x1).1
       refine ⟨hic, ?_⟩
       have ht0 : x.gens.take k = x.gens := List.take_of_length_le (by omega)
       rw [x4, ht0, List.take_succ_eq_append_getElem hic, (List.getElem?_eq_some_iff.1 x1).2]
      go_wp2_with fail
      go_roundw
      case rel => exact ⟨i + 1, co, ck, qs, by omega, by go_num, rfl, HC, HOK, HG2, HB5⟩
      case measure => simp [intOf]; omega
    | true =>
     have HC5 := HC; have HOK5 := HOK; have HBL5 := HBL
     have HA3 : Hid (At3 s i WS (qs.map (·.x)) false a []) := HA.out.start
     have HWS5 := hide (HWS4.out.below HBL.out)
     have d5 := (HBL.out.cell (p := ⟨b7, o7, none⟩) hlt74).trans d0
     have hlt75 : b7 < wr.heap.size := Nat.lt_of_lt_of_le hlt74 HBL.out.size
     clear HA HC HOK HBL
     go_wp2_with fail
     generalize wr = W5 at *
     go_loopw [9, 14, 15] (fun mv av vv wr => ∃ (m2 : Bool) (a2 : Nat) (zs : List Int), a ≤ a2 ∧ a2 ≤ nw ∧ mv = .bool m2 ∧ av = .int .i64 a2 ∧ (a2 = a → m2 = false) ∧ zs.length + a = a2 ∧ Hid (IntsO W5.heap.size wr vv zs) ∧ Hid (At3 s i WS (qs.map (·.x)) m2 a2 zs) ∧ Hid (Below W5.heap.size W5 wr)) (fun _ av _ _ => nw - (intOf av).toNat)
     case atStart => exact ⟨false, a, [], Nat.le_refl _, ha, rfl, rfl, fun _ => rfl, by simp, hide (IntsO.nil _ _), HA3, hide (Below.refl _ _)⟩
     case round =>
      clear HA3
      obtain ⟨m2, a2, zs, haa, han, rfl, rfl, hm2, hzl, HV, HA3, HBV⟩ := hrel
      have d6 := (HBV.out.cell (p := ⟨b7, o7, none⟩) hlt75).trans d5
      by_cases hal : a2 < nw
      ·have ga : decide ((a2 : Int) < (nw : Int)) = true := decide_eq_true (by omega)
       cases m2 with
       | false =>
        obtain ⟨t, ht⟩ : ∃ t, WS[a2]? = some t := ⟨_, List.getElem?_eq_getElem (by rw [HNW.out]; omega)⟩
        obtain ⟨b8, o8, c8, e, -, ct⟩ := (HWS5.out.below HBV.out).at ht
        simp only [Value.slice.injEq, Option.some.injEq, Addr.mk.injEq, and_true] at e
        obtain ⟨⟨rfl, rfl⟩, -, -⟩ := e
        have hz1 := HWZ.out a2 t ht
        have HT := hide ht
        clear ht
        go_upto_region 27 with fail
        go_cut [9] from 93 to 104 (fun v wx => v = .bool (semiB t) ∧ wx = wr)
        case first =>
         obtain ⟨sb, hsb⟩ : ∃ sb, semiB t = sb := ⟨_, rfl⟩
         have HSB := hide hsb
         by_cases hz0 : t.size = 0
         ·have g9 : decide (0 < (t.size : Int)) = false := decide_eq_false (by omega)
          have g9n : ¬ 0 < t.size := by omega
          have hf : sb = false := by rw [← hsb]; unfold semiB; rw [decide_eq_false (by omega)]; rfl
          subst hf
          clear hsb hz0
          go_wp2_with fail
          go_meet
          case rel => exact ⟨by rw [HSB.out], rfl⟩
         ·have g9 : decide (0 < (t.size : Int)) = true := decide_eq_true (by omega)
          have g9n : 0 < t.size := by omega
          obtain ⟨p, hp⟩ : ∃ p, t.size - 1 = p := ⟨_, rfl⟩
          have gp : (t.size : Int) - 1 = (p : Int) := by omega
          have hpl : p < t.size := by omega
          have wp : IntKind.i64.wrap (p : Int) = (p : Int) := wrap_small (by omega) (by omega)
          have bq := byt_eq (s := t) (k := p) hpl
          have hs2 : (byt t p == 59) = sb := by rw [← hsb]; unfold semiB; rw [decide_eq_true (by omega), hp]; rfl
          obtain ⟨bn, hbn, -⟩ := byt_nat t p
          rw [hbn] at bq hs2
          clear hsb hz0 hp hbn
          cases sb with
          | false =>
           go_wp2_with fail
           go_meet
           case rel => exact ⟨by rw [HSB.out], rfl⟩
          | true =>
           go_wp2_with fail
           go_meet
           case rel => exact ⟨by rw [HSB.out], rfl⟩
        case rest =>
        obtain ⟨rfl, rfl⟩ := hcut
        go_upto_if 104 with fail
        go_cut [9, 16] from 104 to 110 (fun v9 v wx => v9 = .bool (semiB t) ∧ v = .string (stripB t) ∧ wx = wc)
        case first =>
         obtain ⟨sb, hsb⟩ : ∃ sb, semiB t = sb := ⟨_, rfl⟩
         obtain ⟨tb, htb⟩ : ∃ tb, stripB t = tb := ⟨_, rfl⟩
         have HSB := hide hsb
         rw [hsb]
         have HTB := hide htb
         cases sb with
         | false =>
          have e : tb = t := by rw [← htb]; unfold stripB; rw [hsb]; rfl
          subst e
          clear htb hsb
          go_wp2_with fail
          go_meet
          case rel => exact ⟨by rw [HSB.out], by rw [HTB.out], rfl⟩
         | true =>
          have e : tb = t.extract 0 (t.size - 1) := by rw [← htb]; unfold stripB; rw [hsb]; rfl
          have h0 : 0 < t.size := by
           unfold semiB at hsb
           simp only [Bool.and_eq_true, decide_eq_true_eq] at hsb
           exact hsb.1
          obtain ⟨p, hp⟩ : ∃ p, t.size - 1 = p := ⟨_, rfl⟩
          rw [hp] at e
          have gp : (t.size : Int) - 1 = (p : Int) := by omega
          have hpl : p ≤ t.size := by omega
          subst e
          clear htb hsb h0 hp
          go_wp2_with fail
          go_meet
          case rel => exact ⟨by rw [HSB.out], by rw [HTB.out], rfl⟩
        case rest =>
        obtain ⟨rfl, rfl, rfl⟩ := hcut
        go_wp2_with fail
        refine (small_any wc (stripB t)).mono ?_
        rintro e w7 ⟨zv, ok, rfl, hzr, hy, hb7⟩
        cases ok with
        | false =>
         have HBAD : Hid (∀ cs, CatOk cs → s ≠ bytesP (textC cs)) := fun cs hc h => by
          obtain ⟨y, y1, y2, y3⟩ := HA3.out.tok HT.out hc h
          have := (hy y y1 y2 y3).1
          cases this
         have HBB := hide (HB1.out.trans ((HB5.out.trans ((HBV.out.trans (hb7.mono HBV.out.size)).mono HB5.out.size)).mono HB1.out.size))
         clear hb7 hy
         go_wp2
         go_ret2
         exact ⟨.inl ⟨HBAD.out, rfl⟩, HBB.out⟩
        | true =>
         have HA4 := hide (HA3.out.next HT.out (fun y y1 y2 y3 => (hy y y1 y2 y3).2))
         have hv7 := HV.out.later hb7
         obtain ⟨vo, vk, W8, hr, hown, hb8⟩ := hv7.snoc (Nat.le_trans HBV.out.size hb7.size) zv hzr (by omega)
         have HR := hide hr; have HV8 := hide hown; have HBV8 := hide ((HBV.out.trans (hb7.mono HBV.out.size)).trans hb8)
         have hl8 : (zs ++ [zv]).length + a = a2 + 1 := by rw [List.length_append, List.length_singleton]; omega
         clear hr hown hb8 hv7 hb7 hy hzr HV HBV HA3 d6 ct
         generalize semiB t = m3 at *
         go_wp2_with (show wpList _ _ _ ({ dst := some 120, op := _, type := _, pos := _, after := _, guard := _ } :: _) _ _; refine Lib.wpList_append_run _ rfl _ _ _ _ rfl _ _ rfl rfl _ _ HR.out ?_)
         go_roundw
         case rel => exact ⟨m3, a2 + 1, zs ++ [zv], by omega, by omega, rfl, by go_num, fun h => absurd h (by omega), hl8, HV8, HA4, HBV8⟩
         case measure => simp [intOf]; omega
       | true =>
        obtain ⟨vo, vk, rfl, hrow⟩ := HV.out.row
        have HROW := hide hrow; have HB6 := hide HBV
        clear hrow
        go_wp2_with fail
        refine (applyR_any wr _ qs ⟨3, t0, 0, zs⟩ vo vk (HC5.out.below HBV.out) HOK5.out HROW.out (by show zs.length ≤ 100000; omega)).mono ?_
        rintro e w8 hres
        rcases refRes_ok hres with ⟨hf, rfl, hb8⟩ | ⟨hf, o8, n8, k8, q8, rfl, hc8, hm8, hb8⟩
        ·have HBAD : Hid (∀ cs, CatOk cs → s ≠ bytesP (textC cs)) := fun cs hc h => by
          obtain ⟨x, k, x1, x2, x3, x4, x5, -, -⟩ := HA3.out.done (.inl rfl) hc h
          have hxo := hc.all x (List.mem_of_getElem? x1)
          have hxt : cs.take (i + 1) = cs.take i ++ [x] := by rw [List.take_succ_eq_append_getElem (List.getElem?_eq_some_iff.1 x1).1, (List.getElem?_eq_some_iff.1 x1).2]
          have hno : NmOk ⟨x.name, x.n, x.gens.take k ++ [zs]⟩ := by
           rw [← x5]
           exact ⟨hxo.name, hxo.n, by have := hxo.few; show (x.gens.take (k + 1)).length ≤ 10; rw [List.length_take]; omega, fun g hg => hxo.gens g (List.mem_of_mem_take hg)⟩
          have hl := last_put (ps := cs.take i) (catOk_last (ps := cs.take i) (x := x) (by rw [← hxt]; exact catOk_take hc (i + 1)) rfl hno)
          rw [HT0.out] at x3
          apply hf
          rw [x4, Option.some.inj x3, hl]
         have HBB := hide (HB1.out.trans ((HB5.out.trans ((HB6.out.trans (hb8.mono HB6.out.size)).mono HB5.out.size)).mono HB1.out.size))
         have gf := Nat.pos_of_ne_zero hf
         clear hf hres hb8
         go_wp2
         go_ret2
         exact ⟨.inl ⟨HBAD.out, rfl⟩, HBB.out⟩
        ·have hl8 : n8 = q8.length := by
          obtain ⟨_, _, e, -⟩ := id hc8
          simp only [Value.slice.injEq] at e
          exact e.2.1
         subst hl8
         have HOK8 : Hid (CatOk (q8.map (·.x))) := by show CatOk _; rw [hm8]; exact applyC_ok HOK5.out _ hf
         have HA8 : Hid (At2 s i WS (q8.map (·.x)) true a2) := fun cs hc h => by
          obtain ⟨x, k, x1, x2, x3, x4, x5, x6, x7⟩ := HA3.out.done (.inl rfl) hc h
          have hxo := hc.all x (List.mem_of_getElem? x1)
          have hxt : cs.take (i + 1) = cs.take i ++ [x] := by rw [List.take_succ_eq_append_getElem (List.getElem?_eq_some_iff.1 x1).1, (List.getElem?_eq_some_iff.1 x1).2]
          have hno : NmOk ⟨x.name, x.n, x.gens.take k ++ [zs]⟩ := by
           rw [← x5]
           exact ⟨hxo.name, hxo.n, by have := hxo.few; show (x.gens.take (k + 1)).length ≤ 10; rw [List.length_take]; omega, fun g hg => hxo.gens g (List.mem_of_mem_take hg)⟩
          have hl := last_put (ps := cs.take i) (catOk_last (ps := cs.take i) (x := x) (by rw [← hxt]; exact catOk_take hc (i + 1)) rfl hno)
          have ht0 := HT0.out
          rw [x3] at ht0
          refine ⟨x, k + 1, x1, x2, x3, ?_, x6, x7⟩
          rw [hm8, x4, ← Option.some.inj ht0, hl, x5]
         have HC8 := hide hc8
         have HB8 := hide (HBL5.out.trans ((HB6.out.trans (hb8.mono HB6.out.size)).mono HBL5.out.size))
         clear hf hres hb8 hc8 hm8
         go_wp2_with fail
         go_roundw
         case rel => exact ⟨true, a2, o8, k8, q8, by omega, by omega, rfl, rfl, rfl, HC8, HOK8, HA8, HB8⟩
         case measure =>
          have hne : a2 ≠ a := fun e => by have := hm2 e; cases this
          simp [intOf, boolN]
          omega
      ·have ga : decide ((a2 : Int) < (nw : Int)) = false := decide_eq_false (by omega)
       have hnl : WS.length ≤ a2 := by rw [HNW.out]; omega
       ·skip
        obtain ⟨vo, vk, rfl, hrow⟩ := HV.out.row
        have HROW := hide hrow; have HB6 := hide HBV
        clear hrow
        go_wp2_with fail
        refine (applyR_any wr _ qs ⟨3, t0, 0, zs⟩ vo vk (HC5.out.below HBV.out) HOK5.out HROW.out (by show zs.length ≤ 100000; omega)).mono ?_
        rintro e w8 hres
        rcases refRes_ok hres with ⟨hf, rfl, hb8⟩ | ⟨hf, o8, n8, k8, q8, rfl, hc8, hm8, hb8⟩
        ·have HBAD : Hid (∀ cs, CatOk cs → s ≠ bytesP (textC cs)) := fun cs hc h => by
          obtain ⟨x, k, x1, x2, x3, x4, x5, -, -⟩ := HA3.out.done (.inr hnl) hc h
          have hxo := hc.all x (List.mem_of_getElem? x1)
          have hxt : cs.take (i + 1) = cs.take i ++ [x] := by rw [List.take_succ_eq_append_getElem (List.getElem?_eq_some_iff.1 x1).1, (List.getElem?_eq_some_iff.1 x1).2]
          have hno : NmOk ⟨x.name, x.n, x.gens.take k ++ [zs]⟩ := by
           rw [← x5]
           exact ⟨hxo.name, hxo.n, by have := hxo.few; show (x.gens.take (k + 1)).length ≤ 10; rw [List.length_take]; omega, fun g hg => hxo.gens g (List.mem_of_mem_take hg)⟩
          have hl := last_put (ps := cs.take i) (catOk_last (ps := cs.take i) (x := x) (by rw [← hxt]; exact catOk_take hc (i + 1)) rfl hno)
          rw [HT0.out] at x3
          apply hf
          rw [x4, Option.some.inj x3, hl]
         have HBB := hide (HB1.out.trans ((HB5.out.trans ((HB6.out.trans (hb8.mono HB6.out.size)).mono HB5.out.size)).mono HB1.out.size))
         have gf := Nat.pos_of_ne_zero hf
         clear hf hres hb8
         go_wp2
         go_ret2
         exact ⟨.inl ⟨HBAD.out, rfl⟩, HBB.out⟩
        ·have hl8 : n8 = q8.length := by
          obtain ⟨_, _, e, -⟩ := id hc8
          simp only [Value.slice.injEq] at e
          exact e.2.1
         subst hl8
         have HOK8 : Hid (CatOk (q8.map (·.x))) := by show CatOk _; rw [hm8]; exact applyC_ok HOK5.out _ hf
         have HA8 : Hid (At2 s i WS (q8.map (·.x)) m2 a2) := fun cs hc h => by
          obtain ⟨x, k, x1, x2, x3, x4, x5, x6, x7⟩ := HA3.out.done (.inr hnl) hc h
          have hxo := hc.all x (List.mem_of_getElem? x1)
          have hxt : cs.take (i + 1) = cs.take i ++ [x] := by rw [List.take_succ_eq_append_getElem (List.getElem?_eq_some_iff.1 x1).1, (List.getElem?_eq_some_iff.1 x1).2]
          have hno : NmOk ⟨x.name, x.n, x.gens.take k ++ [zs]⟩ := by
           rw [← x5]
           exact ⟨hxo.name, hxo.n, by have := hxo.few; show (x.gens.take (k + 1)).length ≤ 10; rw [List.length_take]; omega, fun g hg => hxo.gens g (List.mem_of_mem_take hg)⟩
          have hl := last_put (ps := cs.take i) (catOk_last (ps := cs.take i) (x := x) (by rw [← hxt]; exact catOk_take hc (i + 1)) rfl hno)
          have ht0 := HT0.out
          rw [x3] at ht0
          refine ⟨x, k + 1, x1, x2, x3, ?_, x6, x7⟩
          rw [hm8, x4, ← Option.some.inj ht0, hl, x5]
         have HC8 := hide hc8
         have HB8 := hide (HBL5.out.trans ((HB6.out.trans (hb8.mono HB6.out.size)).mono HBL5.out.size))
         clear hf hres hb8 hc8 hm8
         go_wp2_with fail
         go_roundw
         case rel => exact ⟨m2, a2, o8, k8, q8, by omega, by omega, rfl, rfl, rfl, HC8, HOK8, HA8, HB8⟩
         case measure =>
          cases m2 with
          | false => simp [intOf, boolN]; omega
          | true =>
           have hne : a2 ≠ a := fun e => by have := hm2 e; cases this
           simp [intOf, boolN]
           omega
  ·have gil : decide ((i : Int) + 1 < (n1 : Int)) = false := decide_eq_false (by omega)
   have HALL : Hid (∀ cs, CatOk cs → s = bytesP (textC cs) → qs.map (·.x) = cs) := fun cs hc h => by
    obtain ⟨h1, h2⟩ := HG.out cs hc h
    have e := HGL.out cs hc h
    have hl : n1 = cs.length + 1 := by rw [← HN1.out, e]; simp
    rw [h2, List.take_of_length_le (by omega)]
   go_wp2_with fail
   refine (textR_any wr _ qs HC.out HOK.out).mono ?_
   rintro e w3 ⟨rfl, hb3⟩
   have HB3 := hide (HB1.out.trans ((HB.out.trans (hb3.mono HB.out.size)).mono HB1.out.size)); have HC3 := hide (HC.out.below hb3)
   clear hb3 HC HB
   obtain ⟨TX, hTX⟩ : ∃ TX, bytesP (textC (qs.map (·.x))) = TX := ⟨_, rfl⟩
   rw [hTX]
   by_cases hts : TX = s
   ·have q1 : (TX.toList == s.toList) = true := by rw [toList_beq]; exact decide_eq_true hts
    have q2 : (TX.toList != s.toList) = false := by rw [bne, q1]; rfl
    have q3 : decide (TX = s) = true := decide_eq_true hts
    have HS := hide (hts.symm.trans hTX.symm)
    clear hTX hts
    go_wp2
    go_ret2
    exact ⟨.inr ⟨_, qs, rfl, HC3.out, HOK.out, HS.out⟩, HB3.out⟩
   ·have q1 : (TX.toList == s.toList) = false := by rw [toList_beq]; exact decide_eq_false hts
    have q2 : (TX.toList != s.toList) = true := by rw [bne, q1]; rfl
    have q3 : decide (TX = s) = false := decide_eq_false hts
    have HBAD : Hid (∀ cs, CatOk cs → s ≠ bytesP (textC cs)) := fun cs hc h => by
     have := HALL.out cs hc h
     rw [this] at hTX
     exact hts (hTX.symm.trans h.symm)
    clear hTX hts
    go_wp2
    go_ret2
    exact ⟨.inl ⟨HBAD.out, rfl⟩, HB3.out⟩

end Go.Proofs.YtjdnhdcaifogmaaGreatDoor
