/- TopGcdCardSaid, proved: of any two numbers, the greatest number that goes into both is so many times the one and so many times the other, is not below nought, goes into both, and is nought just for two noughts. No condition beside the card's own tie of three tables to the program's text. -/
import Derived.Test.YtkfgfodghnafgabDoorTopGcd
import Derived.Test.YtkfgfodghnafgabDoorTopGcdN
import Derived.Test.YtkfgfodghnafgabDoorCards
import Derived.Test.YtkfgfodghnafgabDoorOpens
import Derived.Test.YtkfgfodghnafgabDoorTie
import Derived.LaidMore
import Derived.OpenShut
import Derived.Stop.Joined
import Derived.SevenTiedAt
namespace Go.Proofs.YtkfgfodghnafgabDoor
open Go.ChangeShapes Go.WideShapes Go.ChangeAt Go.RowKit Go.Joins Limbs

theorem topGcd_any (w : World) (va vb : Value) {an bn : Bool} {ao bo : Option Addr} {acap bcap : Nat} {za zb : List Int}
    (ha : Came w va an ao acap za) (hb : Came w vb bn bo bcap zb) :
    Calls Tryd.prog 3 #[va, vb] w fun e w' => e = .returned (.bool true) ∧ Below w.heap.size w w' := by
  obtain ⟨rfl, la, ha⟩ := ha
  obtain ⟨rfl, lb, hb⟩ := hb
  cases hg : [Raw.mk an (.slice ao za.length acap) za, Raw.mk bn (.slice bo zb.length bcap) zb].all Raw.good
  · exact topGcd_not w an bn ao bo acap bcap za zb la lb ha hb hg
  · simp only [List.all_cons, List.all_nil, Raw.good, Bool.and_eq_true, decide_eq_true_eq, Bool.and_true] at hg
    obtain ⟨⟨g1, g2⟩, g3, g4⟩ := hg
    exact topGcd_fit w an bn ao bo acap bcap za zb (ha (by omega)) (hb (by omega)) g1 g3 g2 g4

set_option maxRecDepth 100000 in
theorem doorMet_topGcd (os : Os) (args : Array Value) : laidMetH Tryd.prog Rows.topGcdRow.laid ((World.doorLaid Tryd.prog 600 os).forCall (fun _ _ => 0) ⟨#[], args, []⟩).memory :=
  laidMetH_of_parts3 (fuel := 8) (laidMet_of_run' 8 (by kernel_rfl) (by kernel_rfl)) (by kernel_rfl) (by kernel_rfl)

set_option maxRecDepth 100000 in
theorem topGcd_lifted (os : Os) (started : os.Started) (H : Type) (enc : TypeId × Value → H) :
    ReturnsInHanded {} Tryd.checked os 3 .any (fun w args => (Rows.topGcdSpec.pre enc Tryd.prog Tryd.f3 [] false w args ∧ laidMetH Tryd.prog Rows.topGcdRow.laid w) ∧ sizedMet enc Tryd.prog Tryd.f3 (OpenSpec.ofChange Rows.topGcdSpec) false w args)
      (Rows.topGcdSpec.post enc Tryd.prog Tryd.f3 false true false false) := by
  refine returnsInHanded_of_change_and (C := Tryd.checked) (X := fun w _ => laidMetH Tryd.prog Rows.topGcdRow.laid w) (fun _ _ _ hh h => h.of_heap hh) Tryd.own started (by kernel_rfl) Tryd.func3
    (ChangeSpec.witness_shaped (enc := enc) (C := Tryd.checked) (os := os) (X := fun w _ => laidMetH Tryd.prog Rows.topGcdRow.laid w) false (World.doorLaid Tryd.prog 600 os) #[.agg #[.bool false, .slice none 0 0], .agg #[.bool false, .slice none 0 0]] 8 rfl (World.shaped_of_RefB (by kernel_rfl) (by kernel_rfl)) (by kernel_rfl) (by kernel_rfl) (by kernel_rfl) (doorMet_topGcd os _)) ?_
  intro W base args ds gs before hval0 hW _ _ hL _
  have hval : ∀ (j : Nat) t v, Tryd.f3.params[j]? = some t → args[j]? = some v → Value.okWide Tryd.prog W .any base t v := hval0
  have hW' := hW
  obtain ⟨p, q, hA0, hV, rfl, hfz, hnd⟩ := hW
  have hA : DataW.TrodAll enc Tryd.prog W 0 (fun _ => true) true Tryd.f3.params.toList args.toList ds p := hA0
  rw [Tryd.params3] at hA hval
  obtain ⟨v0, v1, d0, d1, p0, p1, rfl, rfl, rfl, h0, h1⟩ := trodAll_two hA
  obtain ⟨rfl, rfl⟩ := trodVars_none hV
  have lt0 : ∀ x ∈ p0, x.block < W.heap.size := by obtain ⟨m, hm⟩ := h0; exact DataW.trod_lt m _ _ _ hm
  have lt1 : ∀ x ∈ p1, x.block < W.heap.size := by obtain ⟨m, hm⟩ := h1; exact DataW.trod_lt m _ _ _ hm
  obtain ⟨an, ao, acap, za, ha⟩ := open_num (hval 0 24 v0 rfl rfl) h0
  obtain ⟨bn, bo, bcap, zb, hb⟩ := open_num (hval 1 24 v1 rfl rfl) h1
  clear hA0 hval0
  refine (topGcd_any W v0 v1 ha hb).mono fun e W' ⟨he, bel⟩ => ?_
  subst he
  exact ⟨_, rfl, _, _, _, [], _, [], hW', trodAll_mk1 (shut_bool Tryd.underlying4 _), (trodAll_cons_mk (Below.trod Tryd.laidOut (by kernel_rfl) (of_decide_eq_true (by kernel_rfl)) h0 bel lt0) (trodAll_cons_mk (Below.trod Tryd.laidOut (by kernel_rfl) (of_decide_eq_true (by kernel_rfl)) h1 bel lt1) trodAll_mk0)), rfl, bel.frame _, fun h => by cases h⟩

theorem topGcd_row : Rows.TopGcdSaid :=
  OpenClaim.holds_of_wide 3 Tryd.f3 rfl rfl rfl rfl rfl rfl rfl ⟨rfl, rfl, rfl, rfl, rfl⟩ rfl rfl rfl rfl rfl (by kernel_rfl) Tryd.func3 (by kernel_rfl)
    (of_decide_eq_true (by kernel_rfl)) (by unfold Func.isWrapper; first | (rw [if_pos (by decide +kernel)]; kernel_rfl) | (rw [if_neg (by decide +kernel)]; exact ⟨rfl, rfl⟩))
    (fun os started H enc _ => topGcd_lifted os started H enc)

theorem topGcd_holds : Rows.TopGcdCardSaid :=
  Claim7.holds_tied_plain_at .later [] [.data, .data, .data] true Rows.topGcdCard.stood.harness Rows.topGcdCard.stood.looks
    topGcd_row (fun _ h => by cases h) (by kernel_rfl) (fun _ h => by cases h) topGcd_row_tie rfl ⟨rfl, rfl⟩ (by kernel_rfl) rfl
    (fun f fn hf hfn => by
      obtain rfl : f = 3 := Option.some.inj ((show Tryd.prog.funcNamed Rows.topGcdRow.func = some 3 by kernel_rfl).symm.trans hf) |>.symm
      obtain rfl : fn = Tryd.f3 := (Option.some.inj (Tryd.func3.symm.trans hfn)).symm
      exact ⟨by kernel_rfl, fun j t ht => by
        rw [Tryd.params3] at ht
        have hm : t ∈ [24, 24] := by simpa using Array.mem_of_getElem? ht
        have hall : ([24, 24].all fun u => !Tryd.prog.wantsStandIn u) = true := by kernel_rfl
        exact (show Tryd.prog.wantsStandIn t = false by simpa using List.all_eq_true.1 hall t hm)⟩)
    (by kernel_rfl)

end Go.Proofs.YtkfgfodghnafgabDoor
