/- bag: the lattice at a place has other generators. -/
import Derived.Test.YtjdnhdcaifogmaaGreatDoorBgG

namespace Go.Proofs.YtjdnhdcaifogmaaGreatDoor
open Go.RowKit

theorem own_set {W : World} {base : Nat} {e : TypeId} {size : Nat} {g n cap : Nat} {xs : List Value} (h : W.ownsRow base e size (.slice (some ⟨g, 0, none⟩) n cap) n xs) (k : Nat) (u : Value) : (W.setCell ⟨g, k, none⟩ u).ownsRow base e size (.slice (some ⟨g, 0, none⟩) n cap) n (xs.set k u) := by
 refine ⟨by rw [List.length_set]; exact h.1, ?_⟩
 rcases h.2 with ⟨e, -⟩ | ⟨g', cap', cur, e, hb, hh, h1, h2, h3, h4⟩
 ·simp at e
 ·simp only [Value.slice.injEq, Option.some.injEq, Addr.mk.injEq, and_true, true_and] at e
  obtain ⟨rfl, rfl⟩ := e
  have hlt := heap_lt hh
  refine .inr ⟨g, cap, cur.setIfInBounds k u, rfl, hb, ?_, h1, h2, by rw [Array.size_setIfInBounds]; exact h3, ?_⟩
  ·rw [Array.getElem?_eq_getElem hlt, Option.some.injEq] at hh
   simp [World.setCell, hlt, Array.getElem_modify, hh]
  ·rw [Array.toList_setIfInBounds, List.take_set, h4]

theorem own_free {W : World} {base : Nat} {e : TypeId} {size : Nat} {g n cap : Nat} {xs : List Value} (h : W.ownsRow base e size (.slice (some ⟨g, 0, none⟩) n cap) n xs) (k : Nat) : W.frozen? ⟨g, k, none⟩ = false := by
 rcases h.2 with ⟨e, -⟩ | ⟨g', cap', cur, e, hb, hh, -⟩
 ·simp at e
 ·simp only [Value.slice.injEq, Option.some.injEq, Addr.mk.injEq, and_true, true_and] at e
  obtain ⟨rfl, rfl⟩ := e
  simp [World.frozen?, hh]

theorem own_at {W : World} {base : Nat} {e : TypeId} {size : Nat} {v : Value} {n : Nat} {xs : List Value} (h : W.ownsRow base e size v n xs) (h0 : 0 < n) : ∃ g cap, v = .slice (some ⟨g, 0, none⟩) n cap ∧ base ≤ g ∧ ∀ j u, xs[j]? = some u → W.cell? ⟨g, j, none⟩ = some u := by
 obtain ⟨ao, cap, e, -, hh⟩ := owns_seq h
 obtain ⟨b, off, rfl, -, hc⟩ := hh h0
 rcases h.2 with ⟨e', h00⟩ | ⟨g', cap', cur, e', hb, -⟩
 ·omega
 ·rw [e] at e'
  simp only [Value.slice.injEq, Option.some.injEq, Addr.mk.injEq, and_true, true_and] at e'
  obtain ⟨⟨rfl, rfl⟩, rfl⟩ := e'
  exact ⟨b, cap, e, hb, fun j u hu => by have := hc j u hu; rwa [Nat.zero_add] at this⟩

set_option linter.unusedSimpArgs false in
set_option maxRecDepth 100000 in
set_option maxHeartbeats 1600000 in
theorem with_any (w : World) (v : Value) (qs : List Nc) (k : Nat) (go : Option Addr) (gl gc : Nat) (gs : List (List Int)) (h : CatV w v qs) (hk : k < qs.length) (hq : qs.length ≤ 100) (hg : RowsS w (.slice go gl gc) gs) :
  Calls Tryz.prog 59 #[v, .int .i64 (k : Int), .slice go gl gc] w fun e w' => ∃ u, e = .returned u ∧ CatV w' u (qs.set k ⟨⟨qs[k].x.name, qs[k].x.n, gs⟩, go, gl, gc⟩) ∧ Below w.heap.size w w' := by
 obtain ⟨u, rfl, hu⟩ := h
 obtain ⟨ao, cap, rfl, hcap, -⟩ := id hu
 obtain ⟨x2, x4, hbn, hsz⟩ := two_new w (.slice ao qs.length cap) (.slice none 0 0) 27 27
 have HSEQ := hide (catN_seq (hu.below hbn)); have HIN := hide hu.ins; have HB0 := hide hbn; have X4 := hide x4; have HG := hide hg
 obtain ⟨p2, -, -⟩ := x2
 clear hu hbn x4 hg
 go_enter Tryz.func59, Tryz.ntmps59
 go_wp2_with fail
 generalize (w.alloc (.cells #[.slice ao qs.length cap] 27)).alloc (.cells #[.slice none 0 0] 27) = W0 at *
 refine (cloneN W0 _ qs.length (qs.flatMap Nc.cells) HSEQ.out (nccells_len qs) (by omega) (nccells_one qs)).mono ?_
 rintro e w1 ⟨v1, rfl, hown, hb1⟩
 obtain ⟨g, cp, rfl, hge, hcell⟩ := own_at hown (by omega)
 have c2 := hcell (k * 3 + 2) _ ((nccells_at qs k hk 2 (by omega)).trans rfl)
 have fz := own_free hown (k * 3 + 2)
 have HX4 := hide (X4.out.later hb1)
 obtain ⟨y4, z4, -⟩ := HX4.out
 have hne : g ≠ w.heap.size + 1 := by omega
 have HOW := hide (own_set hown (k * 3 + 2) (.slice go gl gc))
 have HB1 := hide ((HB0.out.trans (hb1.mono HB0.out.size)).setCell (p := ⟨g, k * 3 + 2, none⟩) (by show w.heap.size ≤ g; omega) (.slice go gl gc))
 have y4' : (w1.setCell ⟨g, k * 3 + 2, none⟩ (.slice go gl gc)).cell? ⟨w.heap.size + 1, 0, none⟩ = some (.slice none 0 0) := by
  refine (World.cell?_setCell_other _ _ _ _ fun h => ?_).trans y4
  exact hne (congrArg Addr.block h)
 rw [← nccells_set qs k hk ⟨⟨qs[k].x.name, qs[k].x.n, gs⟩, go, gl, gc⟩ rfl rfl] at HOW
 have HB2 := hide (HB1.out.setCell (p := ⟨w.heap.size + 1, 0, none⟩) (by show w.heap.size ≤ w.heap.size + 1; omega) (.slice (some ⟨g, 0, none⟩) qs.length cp))
 have HCB : Hid (CatN ((w1.setCell ⟨g, k * 3 + 2, none⟩ (.slice go gl gc)).setCell ⟨w.heap.size + 1, 0, none⟩ (.slice (some ⟨g, 0, none⟩) qs.length cp)) (.slice (some ⟨g, 0, none⟩) qs.length cp) (qs.set k ⟨⟨qs[k].x.name, qs[k].x.n, gs⟩, go, gl, gc⟩)) := by
  have h := ownsRow_setCell_below (a := ⟨w.heap.size + 1, 0, none⟩) HOW.out (by show w.heap.size + 1 < W0.heap.size; omega) (.slice (some ⟨g, 0, none⟩) qs.length cp)
  have hl : (qs.set k ⟨⟨qs[k].x.name, qs[k].x.n, gs⟩, go, gl, gc⟩).length = qs.length := List.length_set ..
  refine catN_of_seq (by rw [hl]; exact owns_seq h) (fun q hq => ?_)
  rcases List.mem_or_eq_of_mem_set hq with h | rfl
  ·exact (HIN.out q h).below HB2.out
  ·exact HG.out.below HB2.out
 have c2' : (w1.setCell ⟨g, k * 3 + 2, none⟩ (.slice go gl gc)).cell? ⟨g, k * 3 + 2, none⟩ = some (.slice go gl gc) := World.cell?_setCell_same _ _ _ c2
 clear hown hcell hb1 HOW HSEQ HX4 X4
 go_wp2
 exact bodyPost_ret (v := .agg #[.slice (some ⟨g, 0, none⟩) qs.length cp]) (by simp [results, Tryz.results59, go_sem, World.cell?_setCell_same _ _ _ y4']) rfl ⟨_, rfl, ⟨_, rfl, HCB.out⟩, HB2.out⟩

end Go.Proofs.YtjdnhdcaifogmaaGreatDoor

/- A generator is copied; the first generator that is this one. -/
namespace Go.Proofs.YtjdnhdcaifogmaaGreatDoor
open Go.RowKit

theorem Tryz.infoIntB : (Tryz.prog.info? 3).map (fun i => (i.zero, i.size, i.bytes)) = some (some (.int .i64 0), 1, 8) := by kernel_rfl

theorem rowS_seq {W : World} {v : Value} {ks : List Int} (h : RowS W v ks) : SeqV W v ks.length (ks.map (fun z => Value.int .i64 z)) := by
 obtain ⟨ao, cap, e, hn, -, hh⟩ := h
 refine ⟨ao, cap, e, hn, fun h0 => ?_⟩
 obtain ⟨b, off, e', hlt, hc⟩ := hh h0
 refine ⟨b, off, e', hlt, fun j u hu => ?_⟩
 rw [List.getElem?_map] at hu
 cases hj : ks[j]? with
 | none => rw [hj] at hu; cases hu
 | some z =>
  rw [hj] at hu
  obtain ⟨hj', e2⟩ := List.getElem?_eq_some_iff.1 hj
  have := hc j hj'
  rw [List.getD_eq_getElem?_getD, hj] at this
  rw [this]; simpa using hu

theorem rowS_of_seq {W : World} {v : Value} {ks : List Int} (h : SeqV W v ks.length (ks.map (fun z => Value.int .i64 z))) (h64 : ∀ i, -9223372036854775808 ≤ ks.getD i 0 ∧ ks.getD i 0 ≤ 9223372036854775807) : RowS W v ks := by
 obtain ⟨ao, cap, e, hn, hh⟩ := h
 refine ⟨ao, cap, e, hn, h64, fun h0 => ?_⟩
 obtain ⟨b, off, e', hlt, hc⟩ := hh h0
 refine ⟨b, off, e', hlt, fun i hi => hc i _ ?_⟩
 rw [List.getElem?_map, List.getD_eq_getElem?_getD, List.getElem?_eq_getElem hi]; rfl

theorem RowS.in64 {W : World} {v : Value} {ks : List Int} (h : RowS W v ks) : ∀ i, -9223372036854775808 ≤ ks.getD i 0 ∧ ks.getD i 0 ≤ 9223372036854775807 := by
 obtain ⟨_, _, _, _, h, _⟩ := h
 exact h

set_option linter.unusedSimpArgs false in
set_option maxRecDepth 100000 in
set_option maxHeartbeats 1600000 in
theorem cloneI_own (w : World) (u : Value) (m : Nat) (ys : List Value) (hu : SeqV w u m ys) (hl : ys.length = m * 1) (hm : m ≤ 1000) (h1 : ∀ y ∈ ys, y.oneCell' = true) :
  Calls Tryz.prog 53 #[u] w fun e w' => ∃ v, e = .returned v ∧ w'.ownsRow w.heap.size 3 1 v m ys ∧ Below w.heap.size w w' := by
 obtain ⟨j0, hj, hy0, hy1, hy2⟩ := info_got Tryz.infoIntB
 obtain ⟨ao, cap, rfl, -⟩ := id hu
 cases ao with
 | none =>
  obtain ⟨ao', cap', e, -, hh⟩ := hu
  simp only [Value.slice.injEq, true_and] at e
  have hm0 : m = 0 := by
   rcases Nat.eq_zero_or_pos m with h | h
   ·exact h
   ·obtain ⟨b, off, e', -⟩ := hh h
    rw [e'] at e
    cases e.1
  subst hm0
  obtain rfl : ys = [] := List.eq_nil_of_length_eq_zero (by simpa using hl)
  have g : Sem.run Tryz.prog (binOp .eql 44 (.slice none 0 cap) (.slice none 0 0)) w = .ok (.bool true) w := by kernel_rfl
  clear hj hy0 hy1 hy2 hh e
  go_enter Tryz.func53, Tryz.ntmps53
  go_wp2
  go_ret
  exact ⟨_, rfl, World.ownsRow_nil _ _ _ _, Below.refl _ _⟩
 | some ad =>
  have g : Sem.run Tryz.prog (binOp .eql 44 (.slice (some ad) m cap) (.slice none 0 0)) w = .ok (.bool false) w := by kernel_rfl
  have hb1 : Below w.heap.size w (w.alloc (.cells #[] 3)) := alloc_below w _
  obtain ⟨o, c, W', hr, hown, hbel⟩ := seq_more (P := Tryz.prog) w (w.alloc (.cells #[] 3)) w.heap.size (Nat.le_refl _) hb1 hb1.size 44 44 3 j0 (.int .i64 0) 1 8 (by kernel_rfl) hj hy0 hy1 hy2 rfl (by decide) (.slice (some ⟨w.heap.size, 0, none⟩) 0 0) 0 [] ⟨by simp, .inr ⟨w.heap.size, 0, #[], rfl, Nat.le_refl _, heap_alloc_new w _, Nat.le_refl _, Nat.zero_le _, by simp, by simp⟩⟩ _ m ys hl hu h1 (by unfold maxLen; omega) (by omega)
  rw [Nat.zero_add, List.nil_append] at hown
  rw [Nat.zero_add] at hr
  have HR := hide hr; have HW := hide hown; have HBL := hide hbel
  clear hj hy0 hy1 hy2 hu hr hown hbel hb1
  go_enter Tryz.func53, Tryz.ntmps53
  go_wp2_with (at_builtin; refine Lib.wpList_append_run _ rfl _ _ _ _ rfl _ _ rfl rfl _ _ HR.out ?_)
  go_wp2
  go_ret
  exact ⟨_, rfl, HW.out, HBL.out⟩

theorem cloneI_any (w : World) (u : Value) (ks : List Int) (hu : RowS w u ks) (hm : ks.length ≤ 1000) :
  Calls Tryz.prog 53 #[u] w fun e w' => ∃ o c, e = .returned (.slice o ks.length c) ∧ RowS w' (.slice o ks.length c) ks ∧ Below w.heap.size w w' ∧ ∀ a, o = some a → w.heap.size ≤ a.block := by
 refine (cloneI_own w u ks.length _ (rowS_seq hu) (by simp) hm (fun y hy => ?_)).mono ?_
 ·obtain ⟨z, -, rfl⟩ := List.mem_map.1 hy; rfl
 ·rintro e w' ⟨v, rfl, hown, hb⟩
  obtain ⟨o, c, rfl, -⟩ := owns_form hown
  exact ⟨o, c, rfl, rowS_of_seq (owns_seq hown) hu.in64, hb, fun a e => (hown.lt a.block (by rw [e]; rfl)).1⟩

set_option linter.unusedSimpArgs false in
set_option maxRecDepth 100000 in
set_option maxHeartbeats 1600000 in
theorem take1_any (w : World) (b : Nat) (vo : Option Addr) (vc : Nat) (vs gs : List Int) (g : Value) (hb : w.cell? ⟨b, 0, none⟩ = some (.slice vo vs.length vc)) (hv : RowS w (.slice vo vs.length vc) vs) (hg : RowS w g gs) (h6 : gs.length ≤ 1000000) :
  Calls Tryz.prog 62 #[g, .pointer (some ⟨b, 0, none⟩)] w fun e w' => e = .returned (.bool (decide (gs = vs))) ∧ Below w.heap.size w w' := by
 have HV := hide hv; have HG := hide hg
 obtain ⟨go, gc, rfl⟩ := hg.form
 clear hv hg
 go_enter Tryz.func62, Tryz.ntmps62
 go_wp2_with fail
 refine (equalI_any w _ _ gs vs HG.out HV.out h6).mono ?_
 rintro e w1 ⟨rfl, hb1⟩
 go_wp2
 go_ret
 exact ⟨rfl, hb1⟩

def idxG (gs : List (List Int)) (v : List Int) : Int := if gs.contains v then (gs.idxOf v : Int) else -1

set_option linter.unusedSimpArgs false in
set_option maxRecDepth 100000 in
set_option maxHeartbeats 1600000 in
theorem indexG_any (w : World) (b : Nat) (vo : Option Addr) (vc : Nat) (vs : List Int) (gs : List (List Int)) (g : Value) (hb : w.cell? ⟨b, 0, none⟩ = some (.slice vo vs.length vc)) (hl : b < w.heap.size) (hv : RowS w (.slice vo vs.length vc) vs) (hg : RowsS w g gs) (hgl : gs.length ≤ 1000000) (h6 : ∀ r ∈ gs, r.length ≤ 1000000) :
  Calls Tryz.prog 61 #[g, .func (.func 62) #[] #[.pointer (some ⟨b, 0, none⟩)]] w fun e w' => e = .returned (.int .i64 (idxG gs vs)) ∧ Below w.heap.size w w' := by
 have HV := hide hv; have HG := hide hg; have H6 := hide h6; have HC := hide hb
 obtain ⟨go, gc, rfl, -⟩ := id hg
 clear hv hg h6 hb
 generalize hr : idxG gs vs = r
 have HR := hide hr
 clear hr
 go_enter Tryz.func61, Tryz.ntmps61
 go_wp2
 go_loopw [8] (fun i wr => ∃ k : Nat, k ≤ gs.length ∧ i = .int .i64 k ∧ Hid (∀ j (h : j < gs.length), j < k → gs[j] ≠ vs) ∧ Hid (Below w.heap.size w wr)) (fun i _ => gs.length - (intOf i).toNat)
 case atStart => exact ⟨0, Nat.zero_le _, rfl, hide (fun j _ hj => absurd hj (by omega)), hide (Below.refl _ _)⟩
 case round =>
  obtain ⟨k, hk, rfl, HN, HB⟩ := hrel
  by_cases hkl : k < gs.length
  ·obtain ⟨gb, goff, gcap, e, hlt, u, cu, hu⟩ := (HG.out.below HB.out).at k hkl
   simp only [Value.slice.injEq, true_and] at e
   obtain ⟨rfl, rfl⟩ := e
   have HU := hide hu
   obtain ⟨uo, uc, rfl⟩ := hu.form
   have HCA := hide (take1_any wr b vo vc vs gs[k] _ ((HB.out.cell (p := ⟨b, 0, none⟩) hl).trans HC.out) (HV.out.below HB.out (Nat.le_refl _)) HU.out (H6.out _ (List.getElem_mem hkl)))
   have HY : Hid (gs[k] = vs → r = (k : Int)) := fun h => by
    rw [← HR.out]
    unfold idxG
    have hm : vs ∈ gs := h ▸ List.getElem_mem hkl
    rw [if_pos (by simpa using hm)]
    have : gs.idxOf vs = k := by
     apply Nat.le_antisymm
     ·rcases Nat.lt_or_ge k (gs.idxOf vs) with h1 | h1
      ·exact absurd h (by have := List.not_of_lt_findIdx h1; simpa using this)
      ·exact h1
     ·rcases Nat.lt_or_ge (gs.idxOf vs) k with h1 | h1
      ·exact absurd (List.getElem_idxOf (List.idxOf_lt_length_of_mem hm)) (HN.out _ (List.idxOf_lt_length_of_mem hm) h1)
      ·exact h1
    rw [this]
   have HN' : Hid (gs[k] ≠ vs → ∀ j (h : j < gs.length), j < k + 1 → gs[j] ≠ vs) := fun h j hj hjk => by
    by_cases e : j < k
    ·exact HN.out j hj e
    ·obtain rfl : j = k := by omega
     exact h
   clear hu HU HN
   generalize gs[k] = gk at *
   go_wp2_with fail
   refine HCA.out.mono ?_
   rintro e w2 ⟨rfl, hb2⟩
   have HB2 := hide (HB.out.trans (hb2.mono HB.out.size))
   clear hb2 HCA HB cu
   by_cases he : gk = vs
   ·rw [decide_eq_true he]
    obtain rfl := HY.out he
    clear he
    go_wp2
    go_ret
    exact ⟨rfl, HB2.out⟩
   ·rw [decide_eq_false he]
    have HN2 := hide (HN'.out he)
    clear he
    go_wp2
    go_roundw
    case rel => exact ⟨k + 1, by omega, by go_num, HN2, HB2⟩
    case measure => simp [intOf]; omega
  ·obtain rfl : k = gs.length := by omega
   obtain rfl : -1 = r := by
    rw [← HR.out]
    unfold idxG
    rw [if_neg]
    intro h
    obtain ⟨i, hi, e⟩ := List.getElem_of_mem (show vs ∈ gs by simpa using h)
    exact HN.out i hi hi e
   go_wp2
   go_ret
   exact ⟨rfl, HB.out⟩

end Go.Proofs.YtjdnhdcaifogmaaGreatDoor

/- bag: a generator is put behind the others; the first one that is this one is taken. -/
namespace Go.Proofs.YtjdnhdcaifogmaaGreatDoor
open Go.RowKit

theorem seq_one (W : World) (u : Value) (t : TypeId) : SeqV (W.alloc (.cells #[u] t)) (.slice (some ⟨W.heap.size, 0, none⟩) 1 1) 1 [u] := by
 refine ⟨_, 1, rfl, Nat.le_refl _, fun _ => ⟨W.heap.size, 0, rfl, by simp, fun j x hx => ?_⟩⟩
 obtain rfl : j = 0 := by
  have := (List.getElem?_eq_some_iff.1 hx).1
  simp at this; exact this
 obtain rfl : u = x := by simpa using hx
 exact one_new W u t

theorem RowS.setOne {W : World} {v : Value} {ks : List Int} (h : RowS W v ks) {p : Addr} (hc : W.cell? p = some (.slice none 0 0)) (x : Value) : RowS (W.setCell p x) v ks := by
 obtain ⟨ao, cap, e, hn, h6, hh⟩ := h
 refine ⟨ao, cap, e, hn, h6, fun h0 => ?_⟩
 obtain ⟨b, off, e', hlt, hcell⟩ := hh h0
 refine ⟨b, off, e', by simpa using hlt, fun i hi => (World.cell?_setCell_other _ _ _ _ fun e => ?_).trans (hcell i hi)⟩
 have := hcell i hi
 rw [← e, hc] at this; cases this

theorem RowsS.setOne {W : World} {v : Value} {gs : List (List Int)} (h : RowsS W v gs) (hne : ∀ g ∈ gs, g ≠ []) {p : Addr} (hc : W.cell? p = some (.slice none 0 0)) (x : Value) : RowsS (W.setCell p x) v gs := by
 obtain ⟨ao, cap, e, hn, hh⟩ := h
 refine ⟨ao, cap, e, hn, fun h0 => ?_⟩
 obtain ⟨b, off, e', hlt, hcell⟩ := hh h0
 refine ⟨b, off, e', by simpa using hlt, fun i r hi => ?_⟩
 obtain ⟨u, hu, hr⟩ := hcell i r hi
 refine ⟨u, (World.cell?_setCell_other _ _ _ _ fun e => ?_).trans hu, hr.setOne hc x⟩
 rw [← e, hc] at hu
 obtain ⟨ao, cap, e2, -⟩ := hr
 rw [e2] at hu
 simp only [Option.some.injEq, Value.slice.injEq] at hu
 exact hne r (List.mem_of_getElem? hi) (List.eq_nil_of_length_eq_zero hu.2.1.symm)

def NonE (qs : List Nc) : Prop := ∀ q ∈ qs, ∀ g ∈ q.x.gens, g ≠ []

theorem CatN.setOne {W : World} {v : Value} {qs : List Nc} (h : CatN W v qs) (hne : NonE qs) {B : Nat} (hc : W.cell? ⟨B, 0, none⟩ = some (.slice none 0 0)) (x : Value) : CatN (W.setCell ⟨B, 0, none⟩ x) v qs := by
 obtain ⟨ao, cap, e, hn, hh⟩ := h
 refine ⟨ao, cap, e, hn, fun h0 => ?_⟩
 obtain ⟨b, off, e', hlt, hcell⟩ := hh h0
 refine ⟨b, off, e', by simpa using hlt, fun i q hi => ?_⟩
 obtain ⟨h1, h2, h3, h4⟩ := hcell i q hi
 refine ⟨(World.cell?_setCell_other _ _ _ _ fun e => ?_).trans h1, (World.cell?_setCell_other _ _ _ _ fun e => ?_).trans h2, (World.cell?_setCell_other _ _ _ _ fun e => ?_).trans h3, RowsS.setOne h4 (hne q (List.mem_of_getElem? hi)) hc x⟩
 ·rw [← e, hc] at h1; cases h1
 ·rw [← e, hc] at h2; cases h2
 ·have := congrArg Addr.off e
  simp at this

theorem lists_twoP (W : World) (t : TypeId) (a b : Value) (n m : Nat) (ca cb : List Value) (ha : SeqV W a n ca) (hb : SeqV W b m cb) : Lists (W.alloc (.cells #[a, b] t)) W.heap.size [a, b] [n, m] [ca, cb] ∧ Below W.heap.size W (W.alloc (.cells #[a, b] t)) := by
 have hbl : Below W.heap.size W (W.alloc (.cells #[a, b] t)) := alloc_below W _
 refine ⟨⟨by simp, rfl, rfl, fun k hk => ?_⟩, hbl⟩
 match k, hk with
 | 0, _ => exact ⟨World.cell?_alloc_new _ _ _ _, ha.below hbl (Nat.le_refl _)⟩
 | 1, _ => exact ⟨World.cell?_alloc_new _ _ _ _, hb.below hbl (Nat.le_refl _)⟩

def CatRes (w : World) (r : Nat × List Nmd) (e : Ending) (w' : World) : Prop :=
 ((r.1 ≠ 0 ∧ e = .returned (.tuple #[.agg #[.slice none 0 0], errV r.1])) ∨ (r.1 = 0 ∧ ∃ u qs, e = .returned (.tuple #[u, .nilIface]) ∧ qs.map (·.x) = r.2 ∧ CatV w' u qs)) ∧ Below w.heap.size w w'

theorem catRes_err {w w' : World} {r : Nat × List Nmd} (c : Nat) (l : List Nmd) (hr : r = (c, l)) (hc : c ≠ 0) (hb : Below w.heap.size w w') : CatRes w r (.returned (.tuple #[.agg #[.slice none 0 0], .iface 71 (.int .i64 (c : Int))])) w' := by
 subst hr
 exact ⟨.inl ⟨hc, by unfold errV; rw [if_neg hc]⟩, hb⟩

set_option linter.unusedSimpArgs false in
set_option maxRecDepth 100000 in
set_option maxHeartbeats 1600000 in
theorem bput_any (w : World) (v x : Value) (qs : List Nc) (k : Nat) (vs : List Int) (h : CatV w v qs) (hk : k < qs.length) (hq : qs.length ≤ 100) (hg10 : qs[k].x.gens.length ≤ 10) (hx : RowS w x vs) (hv : vs.length ≤ 100) (hne : NonE qs) (hvn : vs ≠ []) (r : Nat × List Nmd) (hr : r = if 10 ≤ qs[k].x.gens.length then (2, []) else (0, (qs.map (·.x)).set k ⟨qs[k].x.name, qs[k].x.n, qs[k].x.gens ++ [vs]⟩)) :
  Calls Tryz.prog 42 #[v, .int .i64 (k : Int), x] w fun e w' => CatRes w r e w' := by
 obtain ⟨u, rfl, hu⟩ := h
 obtain ⟨ao, cap, rfl, hcap, -⟩ := id hu
 obtain ⟨vo, vc, rfl⟩ := hx.form
 obtain ⟨x2, x4, hbn, hsz⟩ := two_new w (.slice ao qs.length cap) (.slice none 0 0) 27 27
 have hcat := hu.below hbn
 obtain ⟨b, off, cap', e⟩ := hcat.form (by omega)
 simp only [Value.slice.injEq, true_and] at e
 obtain ⟨rfl, rfl⟩ := e
 obtain ⟨hbl, -, -, d2, hin⟩ := hcat.at k hk
 obtain ⟨ps, hps, hsq, hgi⟩ := rowsS_seq hin
 have hgl : qs[k].l = qs[k].x.gens.length := by
  obtain ⟨_, _, e, -⟩ := id hin
  simp only [Value.slice.injEq] at e
  exact e.2.1
 have hpl : ps.length = qs[k].l := by rw [hgl, ← hps, List.length_map]
 rw [hpl] at hsq
 have HC := hide hcat; have HIN := hide hin; have HB0 := hide hbn; have X2 := hide x2; have X4 := hide x4; have HV := hide (hx.below hbn (Nat.le_refl _)); have HSQ := hide hsq; have HGI := hide hgi; have HPS := hide hps; have HPL := hide hpl
 obtain ⟨p2, -, -⟩ := x2
 obtain ⟨p4, p5, -⟩ := x4
 clear hu hbn hcat hin hx hsq hgi hps hpl
 by_cases h10 : 10 ≤ qs[k].x.gens.length
 ·rw [if_pos h10] at hr
  have HR := hide hr
  clear hr
  have g0 : decide (10 ≤ (qs[k].l : Int)) = true := decide_eq_true (by omega)
  clear hgl h10
  go_enter Tryz.func42, Tryz.ntmps42
  go_wp2_with fail
  generalize (w.alloc (.cells #[.slice (some ⟨b, off, none⟩) qs.length cap] 27)).alloc (.cells #[.slice none 0 0] 27) = W0 at *
  go_wp2
  exact bodyPost_ret (v := .tuple #[.agg #[.slice none 0 0], .iface 71 (.int .i64 2)]) (by simp [results, Tryz.results42, go_sem, p4]) rfl (catRes_err 2 [] HR.out (by decide) HB0.out)
 ·rw [if_neg h10] at hr
  have HR := hide hr
  clear hr
  have g0 : decide (10 ≤ (qs[k].l : Int)) = false := decide_eq_false (by omega)
  have HGL := hide hgl
  clear hgl h10
  go_enter Tryz.func42, Tryz.ntmps42
  go_wp2_with fail
  generalize (w.alloc (.cells #[.slice (some ⟨b, off, none⟩) qs.length cap] 27)).alloc (.cells #[.slice none 0 0] 27) = W0 at *
  refine up_start (A := fun j => decide (j < 9)) (S := (fun w' => w'.cell? ⟨w.heap.size, 0, none⟩ = some (.slice (some ⟨b, off, none⟩) qs.length cap) ∧ w'.cell? ⟨w.heap.size + 1, 0, none⟩ = some (.slice none 0 0))) (by kernel_rfl) (by exact ⟨p2, p4⟩) (fun hHeld => ?_)
  refine up_run (v := ?_) 0 20 [9, 10] rfl rfl (by kernel_rfl) (by kernel_rfl) (by kernel_rfl) (by kernel_rfl) (fun _ _ _ h => h) (by rfl) ?_ (by assumption) ?_
  rotate_left
  ·(intro w hSw; (try dsimp only at hSw); go_simp; with_reducible rfl)
  simp only [Act.put, List.setIfInBounds_toArray, List.set_cons_zero, List.set_cons_succ]
  refine up_run (v := ?_) 1 21 [9, 10] rfl rfl (by kernel_rfl) (by kernel_rfl) (by kernel_rfl) (by kernel_rfl) (fun _ _ _ h => h) (by rfl) ?_ (by assumption) ?_
  rotate_left
  ·(intro w hSw; (try dsimp only at hSw); go_simp; with_reducible rfl)
  simp only [Act.put, List.setIfInBounds_toArray, List.set_cons_zero, List.set_cons_succ]
  refine up_run (v := ?_) 2 22 [9, 10] rfl rfl (by kernel_rfl) (by kernel_rfl) (by kernel_rfl) (by kernel_rfl) (fun _ _ _ h => h) (by rfl) ?_ (by assumption) ?_
  rotate_left
  ·(intro w hSw; (try dsimp only at hSw); go_simp; with_reducible rfl)
  simp only [Act.put, List.setIfInBounds_toArray, List.set_cons_zero, List.set_cons_succ]
  refine up_run (v := ?_) 3 23 [9, 10] rfl rfl (by kernel_rfl) (by kernel_rfl) (by kernel_rfl) (by kernel_rfl) (fun _ _ _ h => h) (by rfl) ?_ (by assumption) ?_
  rotate_left
  ·(intro w hSw; (try dsimp only at hSw); go_simp; with_reducible rfl)
  simp only [Act.put, List.setIfInBounds_toArray, List.set_cons_zero, List.set_cons_succ]
  refine up_one 4 (by kernel_rfl) rfl (fun K hK => ?_)
  go_simp
  refine (cloneI_any _ _ vs (by exact HV.out.below (Below.refl W0.heap.size W0).drew (Nat.le_refl _)) (by omega)).mono ?_
  rintro e w1 ⟨vo1, vc1, rfl, hv1, hb1', -⟩
  have hb1 : Below W0.heap.size W0 w1 := (Below.refl _ _).drew.trans (hb1'.mono (by simp))
  have HV1 := hide hv1; have Y2 := hide (X2.out.later hb1); have Y4 := hide (X4.out.later hb1); have HB01 := hide hb1; have HSQ1 := hide (HSQ.out.below hb1 (Nat.le_refl _))
  obtain ⟨q2, -, -⟩ := Y2.out
  obtain ⟨q4, -, -⟩ := Y4.out
  clear hv1 hb1 hb1' p2 p4
  go_wp2_with fail
  refine hK.out _ _ (fun _ => ⟨q2, q4⟩) ?_
  clear hK K hHeld
  try simp only [Act.put, List.setIfInBounds_toArray, List.set_cons_zero, List.set_cons_succ]
  have hHeld : (fun w' => w'.cell? ⟨w.heap.size, 0, none⟩ = some (.slice (some ⟨b, off, none⟩) qs.length cap) ∧ w'.cell? ⟨w.heap.size + 1, 0, none⟩ = some (.slice none 0 0)) w1 := ⟨q2, q4⟩
  have hbA := alloc_below w1 (.cells #[.slice vo1 vs.length vc1] 44)
  have hsA : SeqV (w1.alloc (.cells #[.slice vo1 vs.length vc1] 44)) (.slice (some ⟨w1.heap.size, 0, none⟩) 1 1) 1 [.slice vo1 vs.length vc1] := seq_one w1 _ _
  have HZ := hide (HSQ1.out.below hbA (Nat.le_refl _)); have HA := hide hsA; have HBA := hide hbA
  obtain ⟨t2, -, -⟩ := Y2.out.later hbA
  obtain ⟨t4, -, -⟩ := Y4.out.later hbA
  clear hbA hsA q2 q4
  refine up_one 5 (by kernel_rfl) rfl (fun K hK => ?_)
  go_simp
  refine hK.out _ _ (fun _ => ⟨t2, t4⟩) ?_
  clear hK K hHeld
  try simp only [Act.put, List.setIfInBounds_toArray, List.set_cons_zero, List.set_cons_succ]
  generalize hwA : w1.alloc (.cells #[.slice vo1 vs.length vc1] 44) = wA at *
  have hHeld : (fun w' => w'.cell? ⟨w.heap.size, 0, none⟩ = some (.slice (some ⟨b, off, none⟩) qs.length cap) ∧ w'.cell? ⟨w.heap.size + 1, 0, none⟩ = some (.slice none 0 0)) wA := ⟨t2, t4⟩
  obtain ⟨hL1, hbL⟩ := lists_twoP wA 64 (.slice qs[k].o qs[k].l qs[k].c) (.slice (some ⟨w1.heap.size, 0, none⟩) 1 1) qs[k].l 1 _ _ HZ.out HA.out
  have hbA : Below W0.heap.size W0 wA := HB01.out.trans (HBA.out.mono HB01.out.size)
  have Z2 := hide (X2.out.later hbA); have Z4 := hide (X4.out.later hbA)
  have hbZ := hbA.trans (hbL.mono hbA.size)
  have Y5 := hide (X2.out.later hbZ); have Y6 := hide (X4.out.later hbZ)
  obtain ⟨s2, -, -⟩ := Y5.out
  obtain ⟨s4, -, -⟩ := Y6.out
  have HL1 := hide hL1; have HBZ := hide hbZ; have HV2 := hide (HV1.out.below (HBA.out.trans (hbL.mono HBA.out.size)) (Nat.le_refl _))
  clear hL1 hbL hbA hbZ t2 t4 Y2 Y4 Z2 Z4 HA HZ HSQ1
  refine up_one 6 (by kernel_rfl) rfl (fun K hK => ?_)
  go_simp
  refine hK.out _ _ (fun _ => ⟨s2, s4⟩) ?_
  clear hK K hHeld
  try simp only [Act.put, List.setIfInBounds_toArray, List.set_cons_zero, List.set_cons_succ]
  generalize wA.alloc (.cells #[.slice qs[k].o qs[k].l qs[k].c, .slice (some ⟨w1.heap.size, 0, none⟩) 1 1] 64) = wB at *
  have hHeld : (fun w' => w'.cell? ⟨w.heap.size, 0, none⟩ = some (.slice (some ⟨b, off, none⟩) qs.length cap) ∧ w'.cell? ⟨w.heap.size + 1, 0, none⟩ = some (.slice none 0 0)) wB := ⟨s2, s4⟩
  refine up_one 7 (by kernel_rfl) rfl (fun K hK => ?_)
  go_simp
  refine (concatG wB _ 2 _ _ _ HL1.out (by simp) (by simp) (by simp; have := HGL.out; omega) (fun cs hcs y hy => (by
   simp only [List.mem_cons, List.not_mem_nil, or_false] at hcs
   rcases hcs with rfl | rfl
   ·exact gcells_one HGI.out y hy
   ·rw [List.mem_singleton] at hy; rw [hy]; rfl)) (two_lens (by rw [List.length_map, HPL.out, Nat.mul_one]) (by simp))).mono ?_
  rintro e w3 ⟨u3, rfl, hown, hb3⟩
  have hb03 := HBZ.out.trans (hb3.mono HBZ.out.size)
  have hrows : RowsS w3 u3 (qs[k].x.gens ++ [vs]) := by
   have hsq := owns_seq hown
   have e1 : [ps.map (·.1), [Value.slice vo1 vs.length vc1]].flatten = (ps ++ [((Value.slice vo1 vs.length vc1 : Value), vs)]).map (·.1) := by simp
   have e2 : [qs[k].l, 1].sum = (ps ++ [((Value.slice vo1 vs.length vc1 : Value), vs)]).length := by rw [List.length_append, HPL.out]; simp
   rw [e1, e2] at hsq
   have := rowsS_of_seq hsq (fun g hg => by
    rcases List.mem_append.1 hg with h | h
    ·exact (HGI.out g h).below hb03 (Nat.le_refl _)
    ·rw [List.mem_singleton] at h; subst h; exact HV2.out.below hb3 (Nat.le_refl _))
   rwa [List.map_append, HPS.out] at this
  obtain ⟨uo, uc, rfl, -⟩ := owns_form hown
  have HRW := hide hrows; have HCC := hide (HC.out.below hb03); have Y7 := hide (X2.out.later hb03); have Y8 := hide (X4.out.later hb03); have HB3 := hide (HB0.out.trans (hb03.mono HB0.out.size))
  obtain ⟨v2, -, -⟩ := Y7.out
  obtain ⟨v4, -, -⟩ := Y8.out
  clear hown hrows hb3 hb03 s2 s4 HL1
  go_wp2_with fail
  refine hK.out _ _ (fun _ => ⟨v2, v4⟩) ?_
  clear hK K hHeld
  try simp only [Act.put, List.setIfInBounds_toArray, List.set_cons_zero, List.set_cons_succ]
  have hHeld : (fun w' => w'.cell? ⟨w.heap.size, 0, none⟩ = some (.slice (some ⟨b, off, none⟩) qs.length cap) ∧ w'.cell? ⟨w.heap.size + 1, 0, none⟩ = some (.slice none 0 0)) w3 := ⟨v2, v4⟩
  refine up_one 8 (by kernel_rfl) rfl (fun K hK => ?_)
  go_simp
  refine (with_any w3 _ qs k _ _ _ (qs[k].x.gens ++ [vs]) ⟨_, rfl, HCC.out⟩ hk hq (by exact HRW.out)).mono ?_
  rintro e w4 ⟨u4, rfl, hcat, hb4⟩
  obtain ⟨u5, rfl, hcat⟩ := hcat
  obtain ⟨ao6, cap6, e6, -⟩ := id hcat
  subst e6
  have Y10 := hide (Y8.out.later hb4); have HCAT := hide hcat; have HB4 := hide (HB3.out.trans (hb4.mono HB3.out.size))
  obtain ⟨x2, -, -⟩ := Y7.out.later hb4
  obtain ⟨x4, x5, -⟩ := Y10.out
  clear hcat hb4 v2 v4 HRW HCC
  go_wp2_with fail
  refine hK.out _ _ (fun _ => ⟨x2, x4⟩) ?_
  clear hK K hHeld
  try simp only [Act.put, List.setIfInBounds_toArray, List.set_cons_zero, List.set_cons_succ]
  have hHeld : (fun w' => w'.cell? ⟨w.heap.size, 0, none⟩ = some (.slice (some ⟨b, off, none⟩) qs.length cap) ∧ w'.cell? ⟨w.heap.size + 1, 0, none⟩ = some (.slice none 0 0)) w4 := ⟨x2, x4⟩
  refine up_one 9 (by kernel_rfl) rfl (fun K hK => ?_)
  go_simp
  refine hK.out _ _ (fun h => absurd h (by decide)) ?_
  clear hK K hHeld
  try simp only [Act.put, List.setIfInBounds_toArray, List.set_cons_zero, List.set_cons_succ]
  refine up_one 10 (by kernel_rfl) rfl (fun K hK => ?_)
  go_simp
  refine hK.out _ _ (fun h => absurd h (by decide)) ?_
  clear hK K
  try simp only [Act.put, List.setIfInBounds_toArray, List.set_cons_zero, List.set_cons_succ]
  refine up_done (by kernel_rfl) ?_
  have HNE : Hid (NonE (qs.set k ⟨⟨qs[k].x.name, qs[k].x.n, qs[k].x.gens ++ [vs]⟩, uo, qs[k].l + 1, uc⟩)) := fun q hq g hg => by
   rcases List.mem_or_eq_of_mem_set hq with h | rfl
   ·exact hne q h g hg
   ·rcases List.mem_append.1 hg with h | h
    ·exact hne _ (List.getElem_mem hk) g h
    ·rw [List.mem_singleton] at h; rw [h]; exact hvn
  have HCB := hide (HCAT.out.setOne HNE.out x4 (.slice ao6 qs.length cap6))
  have HB5 := hide (HB4.out.setCell (p := ⟨w.heap.size + 1, 0, none⟩) (by show w.heap.size ≤ w.heap.size + 1; omega) (.slice ao6 qs.length cap6))
  have HQ : Hid ((qs.set k (⟨⟨qs[k].x.name, qs[k].x.n, qs[k].x.gens ++ [vs]⟩, uo, qs[k].l + 1, uc⟩ : Nc)).map (·.x) = (qs.map (·.x)).set k ⟨qs[k].x.name, qs[k].x.n, qs[k].x.gens ++ [vs]⟩) := List.map_set
  have hl : (qs.set k (⟨⟨qs[k].x.name, qs[k].x.n, qs[k].x.gens ++ [vs]⟩, uo, qs[k].l + 1, uc⟩ : Nc)).length = qs.length := List.length_set
  rw [hl] at HCB
  generalize (qs.set k (⟨⟨qs[k].x.name, qs[k].x.n, qs[k].x.gens ++ [vs]⟩, uo, qs[k].l + 1, uc⟩ : Nc)) = rs at *
  clear HCAT HNE hl HIN HC HPS HSQ
  go_wp2
  exact bodyPost_ret (v := .tuple #[.agg #[.slice ao6 qs.length cap6], .nilIface]) (by simp [results, Tryz.results42, go_sem, World.cell?_setCell_same _ _ _ x4]) rfl ⟨.inr ⟨by rw [HR.out], _, rs, rfl, by rw [HR.out]; exact HQ.out, _, rfl, HCB.out⟩, HB5.out⟩

end Go.Proofs.YtjdnhdcaifogmaaGreatDoor
