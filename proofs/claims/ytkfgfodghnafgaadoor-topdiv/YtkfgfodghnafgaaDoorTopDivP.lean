/- TopDivCardSaid, proved: of any two numbers, what is divided is put together again: how often times the second and what is left is the first, what is left is less and has the second one's sign; by nought it is the document's error. No condition beside the card's own tie of three tables to the program's text. -/
import Derived.Test.YtkfgfodghnafgaaDoorTopDiv
import Derived.Test.YtkfgfodghnafgaaDoorTopDivN
import Derived.Test.YtkfgfodghnafgaaDoorCards
import Derived.Test.YtkfgfodghnafgaaDoorOpens
import Derived.Test.YtkfgfodghnafgaaDoorTie
import Derived.LaidMore
import Derived.OpenShut
import Derived.Stop.Joined
import Derived.SevenTiedAt
namespace Go.Proofs.YtkfgfodghnafgaaDoor
open Go.ChangeShapes Go.WideShapes Go.ChangeAt Go.RowKit Go.Joins Limbs

theorem topDiv_any (w : World) (va vb : Value) {an bn : Bool} {ao bo : Option Addr} {acap bcap : Nat} {za zb : List Int}
    (ha : Came w va an ao acap za) (hb : Came w vb bn bo bcap zb) :
    Calls Tryd.prog 7 #[va, vb] w fun e w' => e = .returned (.bool true) ∧ Below w.heap.size w w' := by
  obtain ⟨rfl, la, ha⟩ := ha
  obtain ⟨rfl, lb, hb⟩ := hb
  cases hg : [Raw.mk an (.slice ao za.length acap) za, Raw.mk bn (.slice bo zb.length bcap) zb].all Raw.good
  · exact topDiv_not w an bn ao bo acap bcap za zb la lb ha hb hg
  · simp only [List.all_cons, List.all_nil, Raw.good, Bool.and_eq_true, decide_eq_true_eq, Bool.and_true] at hg
    obtain ⟨⟨g1, g2⟩, g3, g4⟩ := hg
    exact topDiv_fit w an bn ao bo acap bcap za zb (ha (by omega)) (hb (by omega)) g1 g3 g2 g4

set_option maxRecDepth 100000 in
theorem doorMet_topDiv (os : Os) (args : Array Value) : laidMetH Tryd.prog Rows.topDivRow.laid ((World.doorLaid Tryd.prog 600 os).forCall (fun _ _ => 0) ⟨#[], args, []⟩).memory :=
  laidMetH_of_parts3 (fuel := 8) (laidMet_of_run' 8 (by kernel_rfl) (by kernel_rfl)) (by kernel_rfl) (by kernel_rfl)

set_option maxRecDepth 100000 in
theorem topDiv_lifted (os : Os) (started : os.Started) (H : Type) (enc : TypeId × Value → H) :
    ReturnsInHanded {} Tryd.checked os 7 .any (fun w args => (Rows.topDivSpec.pre enc Tryd.prog Tryd.f7 [] false w args ∧ laidMetH Tryd.prog Rows.topDivRow.laid w) ∧ sizedMet enc Tryd.prog Tryd.f7 (OpenSpec.ofChange Rows.topDivSpec) false w args)
      (Rows.topDivSpec.post enc Tryd.prog Tryd.f7 false true false false) := by
  refine returnsInHanded_of_change_and (C := Tryd.checked) (X := fun w _ => laidMetH Tryd.prog Rows.topDivRow.laid w) (fun _ _ _ hh h => h.of_heap hh) Tryd.own started (by kernel_rfl) Tryd.func7
    (ChangeSpec.witness_shaped (enc := enc) (C := Tryd.checked) (os := os) (X := fun w _ => laidMetH Tryd.prog Rows.topDivRow.laid w) false (World.doorLaid Tryd.prog 600 os) #[.agg #[.bool false, .slice none 0 0], .agg #[.bool false, .slice none 0 0]] 8 rfl (World.shaped_of_RefB (by kernel_rfl) (by kernel_rfl)) (by kernel_rfl) (by kernel_rfl) (by kernel_rfl) (doorMet_topDiv os _)) ?_
  intro W base args ds gs before hval0 hW _ _ hL _
  have hval : ∀ (j : Nat) t v, Tryd.f7.params[j]? = some t → args[j]? = some v → Value.okWide Tryd.prog W .any base t v := hval0
  have hW' := hW
  obtain ⟨p, q, hA0, hV, rfl, hfz, hnd⟩ := hW
  have hA : DataW.TrodAll enc Tryd.prog W 0 (fun _ => true) true Tryd.f7.params.toList args.toList ds p := hA0
  rw [Tryd.params7] at hA hval
  obtain ⟨v0, v1, d0, d1, p0, p1, rfl, rfl, rfl, h0, h1⟩ := trodAll_two hA
  obtain ⟨rfl, rfl⟩ := trodVars_none hV
  have lt0 : ∀ x ∈ p0, x.block < W.heap.size := by obtain ⟨m, hm⟩ := h0; exact DataW.trod_lt m _ _ _ hm
  have lt1 : ∀ x ∈ p1, x.block < W.heap.size := by obtain ⟨m, hm⟩ := h1; exact DataW.trod_lt m _ _ _ hm
  obtain ⟨an, ao, acap, za, ha⟩ := open_num (hval 0 33 v0 rfl rfl) h0
  obtain ⟨bn, bo, bcap, zb, hb⟩ := open_num (hval 1 33 v1 rfl rfl) h1
  clear hA0 hval0
  refine (topDiv_any W v0 v1 ha hb).mono fun e W' ⟨he, bel⟩ => ?_
  subst he
  exact ⟨_, rfl, _, _, _, [], _, [], hW', trodAll_mk1 (shut_bool Tryd.underlying4 _), (trodAll_cons_mk (Below.trod Tryd.laidOut (by kernel_rfl) (of_decide_eq_true (by kernel_rfl)) h0 bel lt0) (trodAll_cons_mk (Below.trod Tryd.laidOut (by kernel_rfl) (of_decide_eq_true (by kernel_rfl)) h1 bel lt1) trodAll_mk0)), rfl, bel.frame _, fun h => by cases h⟩

theorem topDiv_row : Rows.TopDivSaid :=
  OpenClaim.holds_of_wide 7 Tryd.f7 rfl rfl rfl rfl rfl rfl rfl ⟨rfl, rfl, rfl, rfl, rfl⟩ rfl rfl rfl rfl rfl (by kernel_rfl) Tryd.func7 (by kernel_rfl)
    (of_decide_eq_true (by kernel_rfl)) (by unfold Func.isWrapper; first | (rw [if_pos (by decide +kernel)]; kernel_rfl) | (rw [if_neg (by decide +kernel)]; exact ⟨rfl, rfl⟩))
    (fun os started H enc _ => topDiv_lifted os started H enc)

theorem topDiv_holds : Rows.TopDivCardSaid :=
  Claim7.holds_tied_plain_at .later [] [.data, .data, .data] true Rows.topDivCard.stood.harness true
    topDiv_row (fun _ h => by cases h) (by kernel_rfl) (fun _ h => by cases h) topDiv_row_tie rfl ⟨rfl, rfl⟩ (by kernel_rfl) rfl
    (fun f fn hf hfn => by
      obtain rfl : f = 7 := Option.some.inj ((show Tryd.prog.funcNamed Rows.topDivRow.func = some 7 by kernel_rfl).symm.trans hf) |>.symm
      obtain rfl : fn = Tryd.f7 := (Option.some.inj (Tryd.func7.symm.trans hfn)).symm
      exact ⟨by kernel_rfl, fun j t ht => by
        rw [Tryd.params7] at ht
        have hm : t ∈ [33, 33] := by simpa using Array.mem_of_getElem? ht
        have hall : ([33, 33].all fun u => !Tryd.prog.wantsStandIn u) = true := by kernel_rfl
        exact (show Tryd.prog.wantsStandIn t = false by simpa using List.all_eq_true.1 hall t hm)⟩)
    (by kernel_rfl)

end Go.Proofs.YtkfgfodghnafgaaDoor
