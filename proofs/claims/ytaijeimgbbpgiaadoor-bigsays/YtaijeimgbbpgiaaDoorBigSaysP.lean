/- BigSaysCardSaid, proved: of any two numbers, and a number of 64 bits, what the program says they are, and makes of them (their order, sums, differences, products, what is divided, what goes into both, their texts), is what the document's words say. No condition beside the card's own tie of three tables to the program's text. -/
import Derived.Test.YtaijeimgbbpgiaaDoorBigSaysC
import Derived.Test.YtaijeimgbbpgiaaDoorBigSaysB
import Derived.Test.YtaijeimgbbpgiaaDoorCards
import Derived.Test.YtaijeimgbbpgiaaDoorOpens
import Derived.Test.YtaijeimgbbpgiaaDoorTie
import Derived.LaidMore
import Derived.LaidSub
import Derived.Lib.LaidTab
import Derived.ChangeMaps5
import Derived.OpenShut
import Derived.Stop.Joined
import Derived.SevenTiedAt
namespace Go.Proofs.YtaijeimgbbpgiaaDoor
open Go.ChangeShapes Go.WideShapes Go.ChangeAt Go.RowKit Go.Joins Limbs

theorem bigSays_any (w : World) (ht : Tab w) (va vb : Value) {an bn : Bool} {ao bo : Option Addr} {acap bcap : Nat} {za zb : List Int}
    (ha : Came w va an ao acap za) (hb : Came w vb bn bo bcap zb) (n : Int) (hn0 : -9223372036854775808 ≤ n) (hn1 : n ≤ 9223372036854775807) :
    Calls Tryd.prog 4 #[va, vb, .int .i64 n] w fun e w' => e = .returned (.bool true) ∧ Below w.heap.size w w' := by
  obtain ⟨rfl, la, ha⟩ := ha
  obtain ⟨rfl, lb, hb⟩ := hb
  by_cases h1 : 60 < za.length ∨ (za.length ≤ 60 ∧ 60 < zb.length)
  · exact bigSays_long w ht an bn ao bo acap bcap za zb n h1
  · by_cases h2 : isNum an za = true ∧ isNum bn zb = true ∧ za.length ≤ 12 ∧ zb.length ≤ 12
    · exact bigSays_in w ht an bn ao bo acap bcap za zb n hn0 hn1 (ha (by omega)) (hb (by omega)) h2.2.2.1 h2.2.2.2 h2.1 h2.2.1
    · exact bigSays_off w ht an bn ao bo acap bcap za zb n hn0 hn1 (ha (by omega)) (hb (by omega)) (by omega) (by omega) h2

theorem tab_of_laid_says {W : World} (h : laidMetH Tryd.prog Rows.bigSaysRow.laid W) : Tab W := by
  have h1 := h.filter (fun x => x.1 == "internal/strconv.uint64pow10")
  have e : (Rows.bigSaysRow.laid.filter fun x => x.1 == "internal/strconv.uint64pow10") = [("internal/strconv.uint64pow10", Lib.tabData .u64 Lib.pow10Tab)] := by rfl
  rw [e] at h1
  have h2 : laidMet Tryd.prog [("internal/strconv.uint64pow10", Lib.tabData .u64 Lib.pow10Tab)] W := (laidMetH_iff.1 h1).1
  exact Lib.tabIs_of_head (g := 1) (t := 124) (e := 76) (by kernel_rfl) (by kernel_rfl) Tryd.underlying124 Tryd.underlying76 (by kernel_rfl) (by kernel_rfl) h2

set_option maxRecDepth 100000 in
theorem doorMet_bigSays (os : Os) (args : Array Value) : laidMetH Tryd.prog Rows.bigSaysRow.laid ((World.doorLaid Tryd.prog 600 os).forCall (fun _ _ => 0) ⟨#[], args, []⟩).memory :=
  laidMetH_of_parts3 (fuel := 8) (laidMet_of_run' 8 (by kernel_rfl) (by kernel_rfl)) (by kernel_rfl) (by kernel_rfl)

set_option maxRecDepth 100000 in
theorem bigSays_lifted (os : Os) (started : os.Started) (H : Type) (enc : TypeId × Value → H) :
    ReturnsInHanded {} Tryd.checked os 4 .any (fun w args => (Rows.bigSaysSpec.pre enc Tryd.prog Tryd.f4 [] false w args ∧ laidMetH Tryd.prog Rows.bigSaysRow.laid w) ∧ sizedMet enc Tryd.prog Tryd.f4 (OpenSpec.ofChange Rows.bigSaysSpec) false w args)
      (Rows.bigSaysSpec.post enc Tryd.prog Tryd.f4 false true false false) := by
  refine returnsInHanded_of_change_and (C := Tryd.checked) (X := fun w _ => laidMetH Tryd.prog Rows.bigSaysRow.laid w) (fun _ _ _ hh h => h.of_heap hh) Tryd.own started (by kernel_rfl) Tryd.func4
    (ChangeSpec.witness_shaped (enc := enc) (C := Tryd.checked) (os := os) (X := fun w _ => laidMetH Tryd.prog Rows.bigSaysRow.laid w) false (World.doorLaid Tryd.prog 600 os) #[.agg #[.bool false, .slice none 0 0], .agg #[.bool false, .slice none 0 0], .int .i64 0] 8 rfl (World.shaped_of_RefB (by kernel_rfl) (by kernel_rfl)) (by kernel_rfl) (by kernel_rfl) (by kernel_rfl) (doorMet_bigSays os _)) ?_
  intro W base args ds gs before hval0 hW _ _ hL _
  have hval : ∀ (j : Nat) t v, Tryd.f4.params[j]? = some t → args[j]? = some v → Value.okWide Tryd.prog W .any base t v := hval0
  have hW' := hW
  obtain ⟨p, q, hA0, hV, rfl, hfz, hnd⟩ := hW
  have hA : DataW.TrodAll enc Tryd.prog W 0 (fun _ => true) true Tryd.f4.params.toList args.toList ds p := hA0
  rw [Tryd.params4] at hA hval
  obtain ⟨v0, v1, v2, d0, d1, d2, p0, p1, p2, rfl, rfl, rfl, h0, h1, h2⟩ := trodAll_three hA
  obtain ⟨rfl, rfl⟩ := trodVars_none hV
  have lt0 : ∀ x ∈ p0, x.block < W.heap.size := by obtain ⟨m, hm⟩ := h0; exact DataW.trod_lt m _ _ _ hm
  have lt1 : ∀ x ∈ p1, x.block < W.heap.size := by obtain ⟨m, hm⟩ := h1; exact DataW.trod_lt m _ _ _ hm
  have lt2 : ∀ x ∈ p2, x.block < W.heap.size := by obtain ⟨m, hm⟩ := h2; exact DataW.trod_lt m _ _ _ hm
  obtain ⟨an, ao, acap, za, ha⟩ := open_num (hval 0 33 v0 rfl rfl) h0
  obtain ⟨bn, bo, bcap, zb, hb⟩ := open_num (hval 1 33 v1 rfl rfl) h1
  obtain ⟨n, rfl, rfl, rfl, hw⟩ := open_int Tryd.underlying3 (hval 2 3 v2 rfl rfl) h2
  have hbn := bounds_i64 hw
  clear hA0 hval0
  refine (bigSays_any W (tab_of_laid_says hL) v0 v1 ha hb n hbn.1 hbn.2).mono fun e W' ⟨he, bel⟩ => ?_
  subst he
  exact ⟨_, rfl, _, _, _, [], _, [], hW', trodAll_mk1 (shut_bool Tryd.underlying4 _), (trodAll_cons_mk (Below.trod Tryd.laidOut (by kernel_rfl) (of_decide_eq_true (by kernel_rfl)) h0 bel lt0) (trodAll_cons_mk (Below.trod Tryd.laidOut (by kernel_rfl) (of_decide_eq_true (by kernel_rfl)) h1 bel lt1) (trodAll_cons_mk (Below.trod Tryd.laidOut (by kernel_rfl) (of_decide_eq_true (by kernel_rfl)) h2 bel lt2) trodAll_mk0))), rfl, bel.frame _, fun h => by cases h⟩

theorem bigSays_row : Rows.BigSaysSaid :=
  OpenClaim.holds_of_wide 4 Tryd.f4 rfl rfl rfl rfl rfl rfl rfl ⟨rfl, rfl, rfl, rfl, rfl⟩ rfl rfl rfl rfl rfl (by kernel_rfl) Tryd.func4 (by kernel_rfl)
    (of_decide_eq_true (by kernel_rfl)) (by unfold Func.isWrapper; first | (rw [if_pos (by decide +kernel)]; kernel_rfl) | (rw [if_neg (by decide +kernel)]; exact ⟨rfl, rfl⟩))
    (fun os started H enc _ => bigSays_lifted os started H enc)

theorem bigSays_holds : Rows.BigSaysCardSaid :=
  Claim7.holds_tied_plain_at .later [] [.data, .data, .data] true Rows.bigSaysCard.stood.harness Rows.bigSaysCard.stood.looks
    bigSays_row (fun _ h => by cases h) (by kernel_rfl) (fun _ h => by cases h) bigSays_row_tie rfl ⟨rfl, rfl⟩ (by kernel_rfl) rfl
    (fun f fn hf hfn => by
      obtain rfl : f = 4 := Option.some.inj ((show Tryd.prog.funcNamed Rows.bigSaysRow.func = some 4 by kernel_rfl).symm.trans hf) |>.symm
      obtain rfl : fn = Tryd.f4 := (Option.some.inj (Tryd.func4.symm.trans hfn)).symm
      exact ⟨by kernel_rfl, fun j t ht => by
        rw [Tryd.params4] at ht
        have hm : t ∈ [33, 33, 3] := by simpa using Array.mem_of_getElem? ht
        have hall : ([33, 33, 3].all fun u => !Tryd.prog.wantsStandIn u) = true := by kernel_rfl
        exact (show Tryd.prog.wantsStandIn t = false by simpa using List.all_eq_true.1 hall t hm)⟩)
    (by kernel_rfl)

end Go.Proofs.YtaijeimgbbpgiaaDoor
