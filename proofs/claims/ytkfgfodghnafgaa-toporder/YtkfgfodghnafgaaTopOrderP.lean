/- TopOrderSaid, proved: whatever the input, the law answers true, and the input reads as it did. No condition. -/
import Derived.Test.YtkfgfodghnafgaaTopOrder
import Derived.Test.YtkfgfodghnafgaaOpens
namespace Go.Proofs.Ytkfgfodghnafgaa
open Go.ChangeShapes Go.WideShapes Go.ChangeAt Go.RowKit Go.Joins Limbs

set_option maxRecDepth 100000 in
set_option maxHeartbeats 1000000 in
/-- Too many limbs, or no numbers: nothing is said. -/
theorem topOrder_not (w : World) (an bn cn : Bool) (ao bo co : Option Addr) (acap bcap ccap : Nat) (za zb zc : List Int)
    (la : za.length ≤ 9223372036854775807) (lb : zb.length ≤ 9223372036854775807) (lc : zc.length ≤ 9223372036854775807)
    (ha : za.length ≤ 1000000 → Lim w (.slice ao za.length acap) za) (hb : zb.length ≤ 1000000 → Lim w (.slice bo zb.length bcap) zb) (hc : zc.length ≤ 1000000 → Lim w (.slice co zc.length ccap) zc)
    (hnot : [Raw.mk an (.slice ao za.length acap) za, Raw.mk bn (.slice bo zb.length bcap) zb, Raw.mk cn (.slice co zc.length ccap) zc].all Raw.good = false) :
    Calls Try.prog 3 #[.agg #[.bool an, .slice ao za.length acap], .agg #[.bool bn, .slice bo zb.length bcap], .agg #[.bool cn, .slice co zc.length ccap]] w fun e w' => e = .returned (.bool true) ∧ Below w.heap.size w w' := by
  have HA := hide ha; have HB := hide hb; have HC := hide hc
  have HN := hide hnot
  clear ha hb hc hnot
  go_enter Try.func3, Try.ntmps3
  go_wp2_with fail
  have hT := three w (.bool an) (.slice ao za.length acap) (.bool bn) (.slice bo zb.length bcap) (.bool cn) (.slice co zc.length ccap) 24 24 24
  generalize ((w.alloc (.cells #[.bool an, .slice ao za.length acap] 24)).alloc (.cells #[.bool bn, .slice bo zb.length bcap] 24)).alloc (.cells #[.bool cn, .slice co zc.length ccap] 24) = W at *
  refine (of_any W 2 (by decide) (by decide)).mono ?_
  rintro e w1 ⟨r1, rfl, hr1, hb1⟩
  replace hT := hT.later hb1
  have HR1 := hide hr1; clear hr1 hb1
  go_wp2_with fail
  refine (of_any w1 3 (by decide) (by decide)).mono ?_
  rintro e w2 ⟨r2, rfl, hr2, hb2⟩
  replace hT := hT.later hb2
  have HR2 := hide hr2
  replace HR1 := hide (HR1.out.below hb2 (Nat.le_refl _))
  clear hr2 hb2
  go_wp2_with fail
  refine (compare_any w2 _ _ 2 3 2 2 HR1.out HR2.out).mono ?_
  rintro e w3 ⟨rfl, hb3⟩
  replace hT := hT.later hb3
  clear HR1 HR2 hb3
  rw [show cmpI 2 3 = -1 from by decide]
  obtain ⟨p0, p1, -, -⟩ := hT.fst
  obtain ⟨q0, q1, -, -⟩ := hT.snd
  obtain ⟨s0, s1, -, -⟩ := hT.res
  have hT3 := hide hT; clear hT
  by_cases c1 : (60 : Int) < (za.length : Int)
  · have d1 : decide (60 < (za.length : Int)) = true := decide_eq_true c1
    go_wp2
    go_ret
    exact ⟨rfl, hT3.out.below⟩
  have d1 : decide (60 < (za.length : Int)) = false := decide_eq_false c1
  by_cases c2 : (60 : Int) < (zb.length : Int)
  · have d2 : decide (60 < (zb.length : Int)) = true := decide_eq_true c2
    go_wp2
    go_ret
    exact ⟨rfl, hT3.out.below⟩
  have d2 : decide (60 < (zb.length : Int)) = false := decide_eq_false c2
  by_cases c3 : (60 : Int) < (zc.length : Int)
  · have d3 : decide (60 < (zc.length : Int)) = true := decide_eq_true c3
    go_wp2
    go_ret
    exact ⟨rfl, hT3.out.below⟩
  have d3 : decide (60 < (zc.length : Int)) = false := decide_eq_false c3
  go_wp2_with fail
  refine (fit_any _ w3.heap.size [⟨an, .slice ao za.length acap, za⟩, ⟨bn, .slice bo zb.length bcap, zb⟩, ⟨cn, .slice co zc.length ccap, zc⟩] (raws3 _ _ _ _ _ _ _ _ _ _ _ ((HA.out (by omega)).below hT3.out.below (Nat.le_refl _)) ((HB.out (by omega)).below hT3.out.below (Nat.le_refl _)) ((HC.out (by omega)).below hT3.out.below (Nat.le_refl _))) (by simp)).mono ?_
  rintro e w4 ⟨rfl, hb4⟩
  rw [HN.out]
  have hT4 := hide (hT3.out.later ((((Below.refl _ _).alloc (Nat.le_refl _) _).trans (hb4.mono (by simp)))))
  clear hT3 p0 p1 q0 q1 s0 s1 hb4 HA HB HC HN
  go_wp2
  go_ret
  exact ⟨rfl, hT4.out.below⟩

theorem topOrder_any (w : World) (va vb vc : Value) {an bn cn : Bool} {ao bo co : Option Addr} {acap bcap ccap : Nat} {za zb zc : List Int}
    (ha : Came w va an ao acap za) (hb : Came w vb bn bo bcap zb) (hc : Came w vc cn co ccap zc) :
    Calls Try.prog 3 #[va, vb, vc] w fun e w' => e = .returned (.bool true) ∧ Below w.heap.size w w' := by
  obtain ⟨rfl, la, ha⟩ := ha
  obtain ⟨rfl, lb, hb⟩ := hb
  obtain ⟨rfl, lc, hc⟩ := hc
  cases hg : [Raw.mk an (.slice ao za.length acap) za, Raw.mk bn (.slice bo zb.length bcap) zb, Raw.mk cn (.slice co zc.length ccap) zc].all Raw.good
  · exact topOrder_not w an bn cn ao bo co acap bcap ccap za zb zc la lb lc ha hb hc hg
  · simp only [List.all_cons, List.all_nil, Raw.good, Bool.and_eq_true, decide_eq_true_eq, Bool.and_true] at hg
    obtain ⟨⟨g1, g2⟩, ⟨g3, g4⟩, g5, g6⟩ := hg
    exact topOrder_fit w an bn cn ao bo co acap bcap ccap za zb zc (ha (by omega)) (hb (by omega)) (hc (by omega)) g1 g3 g5 g2 g4 g6

set_option maxRecDepth 100000 in
theorem topOrder_lifted (os : Os) (started : os.Started) (H : Type) (enc : TypeId × Value → H) :
    ReturnsInHanded {} Try.checked os 3 .any (Rows.topOrderSpec.pre6 enc Try.prog Try.f3 Rows.topOrderRow.domain false) (Rows.topOrderSpec.post enc Try.prog Try.f3 false true false false) := by
  refine returnsInHanded_of_change (C := Try.checked) Try.own started (by kernel_rfl) Try.func3
    (ChangeSpec.witness6 (enc := enc) (C := Try.checked) false ⟨#[], #[.agg #[.bool false, .slice none 0 0], .agg #[.bool false, .slice none 0 0], .agg #[.bool false, .slice none 0 0]], []⟩ 8 (by kernel_rfl) (by kernel_rfl) (by kernel_rfl) (by kernel_rfl)) ?_
  intro W base args ds gs before hval0 hW hcnd _
  have hval : ∀ (j : Nat) t v, Try.f3.params[j]? = some t → args[j]? = some v → Value.okWide Try.prog W .any base t v := hval0
  have hW' := hW
  obtain ⟨p, q, hA0, hV, rfl, hfz, hnd⟩ := hW
  have hA : DataW.TrodAll enc Try.prog W 0 (fun _ => true) true Try.f3.params.toList args.toList ds p := hA0
  rw [Try.params3] at hA hval
  obtain ⟨v0, v1, v2, d0, d1, d2, p0, p1, p2, rfl, rfl, rfl, h0, h1, h2⟩ := trodAll_three hA
  obtain ⟨rfl, rfl⟩ := trodVars_none hV
  have lt0 : ∀ x ∈ p0, x.block < W.heap.size := by obtain ⟨m, hm⟩ := h0; exact DataW.trod_lt m _ _ _ hm
  have lt1 : ∀ x ∈ p1, x.block < W.heap.size := by obtain ⟨m, hm⟩ := h1; exact DataW.trod_lt m _ _ _ hm
  have lt2 : ∀ x ∈ p2, x.block < W.heap.size := by obtain ⟨m, hm⟩ := h2; exact DataW.trod_lt m _ _ _ hm
  obtain ⟨an, ao, acap, za, ha⟩ := open_num (hval 0 24 v0 rfl rfl) h0
  obtain ⟨bn, bo, bcap, zb, hb⟩ := open_num (hval 1 24 v1 rfl rfl) h1
  obtain ⟨cn, co, ccap, zc, hc⟩ := open_num (hval 2 24 v2 rfl rfl) h2
  clear hA0 hval0
  refine (topOrder_any W v0 v1 v2 ha hb hc).mono fun e W' ⟨he, bel⟩ => ?_
  subst he
  exact ⟨_, rfl, _, _, _, [], _, [], hW', trodAll_mk1 (shut_bool Try.underlying4 _), (trodAll_cons_mk (Below.trod Try.laidOut (by kernel_rfl) (of_decide_eq_true (by kernel_rfl)) h0 bel lt0) (trodAll_cons_mk (Below.trod Try.laidOut (by kernel_rfl) (of_decide_eq_true (by kernel_rfl)) h1 bel lt1) (trodAll_cons_mk (Below.trod Try.laidOut (by kernel_rfl) (of_decide_eq_true (by kernel_rfl)) h2 bel lt2) trodAll_mk0))), rfl, bel.frame _, fun h => by cases h⟩

theorem topOrder_holds : Rows.TopOrderSaid :=
  OpenClaim.holds_of_wide 3 Try.f3 rfl rfl rfl rfl rfl rfl rfl ⟨rfl, rfl, rfl, rfl, rfl⟩ rfl rfl rfl rfl rfl (by kernel_rfl) Try.func3 (by kernel_rfl)
    (of_decide_eq_true (by kernel_rfl)) (by unfold Func.isWrapper; first | (rw [if_pos (by decide +kernel)]; kernel_rfl) | (rw [if_neg (by decide +kernel)]; exact ⟨rfl, rfl⟩))
    (fun os started H enc _ => topOrder_lifted os started H enc)

end Go.Proofs.Ytkfgfodghnafgaa
