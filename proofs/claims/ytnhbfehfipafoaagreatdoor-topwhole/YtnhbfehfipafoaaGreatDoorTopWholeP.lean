/- TopWholeCardSaid, proved: of any operations done, and any done in a deed that is committed: what is seen while the deed is begun is what is there when it is committed, and when it is opened anew, and what its operations do one by one. No condition beside the card's own tie of seven variables to the program's text. -/
import Derived.Test.YtnhbfehfipafoaaGreatDoorOpenO
import Derived.Test.YtnhbfehfipafoaaGreatDoorCards
import Derived.Test.YtnhbfehfipafoaaGreatDoorTie
import Derived.LaidMore
import Derived.LaidSub
import Derived.LaidLaws
import Derived.Lib.LaidTab
import Derived.ChangeMaps5
import Derived.OpenShut
import Derived.Stop.Joined
import Derived.SevenTiedAt
import Derived.Shelf.Vars
import Derived.Lay
import Derived.MakeChecks
import Derived.Carry
namespace Go.Proofs.YtnhbfehfipafoaaGreatDoor
open Go.ChangeShapes Go.WideShapes Go.ChangeAt Go.RowKit Go.Joins

theorem tab_of_laid_st {W : World} (h : laidMetH Tryz.prog Rows.topWholeRow.laid W) : TabP W := by
 have h1 := h.filter (fun x => x.1 == "internal/strconv.uint64pow10")
 have e : (Rows.topWholeRow.laid.filter fun x => x.1 == "internal/strconv.uint64pow10") = [("internal/strconv.uint64pow10", Lib.tabData .u64 Lib.pow10Tab)] := by rfl
 rw [e] at h1
 have h2 : laidMet Tryz.prog [("internal/strconv.uint64pow10", Lib.tabData .u64 Lib.pow10Tab)] W := (laidMetH_iff.1 h1).1
 exact Lib.tabIs_of_head (g := 3) (t := 237) (e := 40) (by kernel_rfl) (by kernel_rfl) Tryz.underlying237 Tryz.underlying40 (by kernel_rfl) (by kernel_rfl) h2

theorem maxLen_st {W : World} (h : W.ShapedOpen Tryz.prog) : MaxL W := by
 obtain ⟨m, hm⟩ := cell_of_shapedOpen_int (g := 0) (t := 3) (zero := #[.int .i64 0]) h (of_decide_eq_true (by kernel_rfl)) (by kernel_rfl) rfl (by kernel_rfl) (by kernel_rfl) Tryz.underlying3
 exact ⟨m, hm, World.block_lt_of_cell? W _ hm⟩

theorem Tryz.own : ownKnob Tryz.prog.godebug = none := by kernel_rfl
theorem Tryz.laidOut : laidOutB Tryz.prog = true := by kernel_rfl

set_option maxRecDepth 100000 in
theorem topWhole_lifted (os : Os) (started : os.Started) (H : Type) (enc : TypeId × Value → H) :
  ReturnsInHanded {} Tryz.checked os 8 .any (fun w args => (Rows.topWholeSpec.pre enc Tryz.prog Tryz.f8 [] false w args ∧ laidMetH Tryz.prog Rows.topWholeRow.laid w) ∧ sizedMet enc Tryz.prog Tryz.f8 (OpenSpec.ofChange Rows.topWholeSpec) false w args)
   (Rows.topWholeSpec.post enc Tryz.prog Tryz.f8 false true false false) := by
 refine returnsInHanded_of_calls Tryz.own started (by kernel_rfl)
  (ChangeSpec.witness_shaped (enc := enc) (C := Tryz.checked) (os := os) (X := fun w _ => laidMetH Tryz.prog Rows.topWholeRow.laid w) false (World.laidAll Tryz.prog os Rows.topWholeRow.laid) #[.slice none 0 0, .slice none 0 0] 8 (World.laidAll_os _ _ _) (World.shaped_of_ZipB (by kernel_rfl) (by kernel_rfl)) (by kernel_rfl) (by kernel_rfl) (by kernel_rfl)
   (by rw [MakeChecks.laidMetH_plain _ _ _ (by kernel_rfl)]; exact laidMet_laidAll _ (by kernel_rfl) (by kernel_rfl))) ?_
 intro w0 tape i _ hsh _ hok hpre _
 obtain ⟨_, _, _, fn', hfn', _, _, _, _, hval0⟩ := hok
 have efn : fn' = Tryz.f8 := Option.some.inj (hfn'.symm.trans Tryz.func8)
 subst efn
 obtain ⟨⟨⟨ds, gs, before, hw0, -⟩, hL0⟩, -⟩ := hpre
 have hW := DataW.Whole.of_heap (w' := w0.forCall tape i) (by rfl) hw0
 have hL : laidMetH Tryz.prog Rows.topWholeRow.laid (w0.forCall tape i) := hL0.of_heap (by rfl)
 refine (show Calls Tryz.prog 8 i.args (w0.forCall tape i) (fun e W' => ∃ v, e = .returned v ∧ Rows.topWholeSpec.post enc Tryz.prog Tryz.f8 false true false false (w0.forCall tape i) i.args v W') from ?_).mono fun e W' ⟨v, he, hp⟩ => by subst he; exact ChangeSpec.post_blind hp
 have hval : ∀ (j : Nat) t v, Tryz.f8.params[j]? = some t → i.args[j]? = some v → Value.okWide Tryz.prog (w0.forCall tape i) .any w0.heap.size t v := hval0
 generalize w0.forCall tape i = W at *
 generalize i.args = args at *
 have hW' := hW
 obtain ⟨p, q, hA0, hV, rfl, hfz, hnd⟩ := hW
 have hA : DataW.TrodAll enc Tryz.prog W 0 (fun _ => true) true Tryz.f8.params.toList args.toList ds p := hA0
 rw [Tryz.params8] at hA hval
 obtain ⟨v0, v1, d0, d1, p0, p1, rfl, rfl, rfl, h0, h1⟩ := trodAll_two hA
 obtain ⟨rfl, rfl⟩ := trodVars_none hV
 have lt0 : ∀ x ∈ p0, x.block < W.heap.size := by obtain ⟨m, hm⟩ := h0; exact DataW.trod_lt m _ _ _ hm
 have lt1 : ∀ x ∈ p1, x.block < W.heap.size := by obtain ⟨m, hm⟩ := h1; exact DataW.trod_lt m _ _ _ hm
 obtain ⟨f, hf⟩ := open_opsV (hval 0 44 v0 rfl rfl) h0
 obtain ⟨g, hg⟩ := open_opsV (hval 1 44 v1 rfl rfl) h1
 clear hA0
 refine (topWhole_any W v0 v1 f g hf hg (tab_of_laid_st hL) (maxLen_st hsh)).mono fun e W' ⟨he, bel⟩ => ?_
 subst he
 exact ⟨_, rfl, _, _, _, [], _, [], hW', trodAll_mk1 (shut_bool Tryz.underlying4 _), (trodAll_cons_mk (Below.trod Tryz.laidOut (by kernel_rfl) (of_decide_eq_true (by kernel_rfl)) h0 bel lt0) (trodAll_cons_mk (Below.trod Tryz.laidOut (by kernel_rfl) (of_decide_eq_true (by kernel_rfl)) h1 bel lt1) trodAll_mk0)), rfl, bel.frame _, fun h => by cases h⟩

theorem topWhole_row : Rows.TopWholeSaid :=
 OpenClaim.holds_of_wide 8 Tryz.f8 rfl rfl rfl rfl rfl rfl rfl ⟨rfl, rfl, rfl, rfl, rfl⟩ rfl rfl rfl rfl rfl (by kernel_rfl) Tryz.func8 (by kernel_rfl)
  (of_decide_eq_true (by kernel_rfl)) (by unfold Func.isWrapper; first | (rw [if_pos (by decide +kernel)]; kernel_rfl) | (rw [if_neg (by decide +kernel)]; exact ⟨rfl, rfl⟩))
  (fun os started H enc _ => topWhole_lifted os started H enc)

theorem topWhole_holds : Rows.TopWholeCardSaid :=
 Claim7.holds_tied_plain_at .later [] [.data, .data, .data, .data, .sentinel, .sentinel, .pinned] true Rows.topWholeCard.stood.harness Rows.topWholeCard.stood.looks
  topWhole_row (fun _ h => by cases h) (by kernel_rfl) (fun _ h => by cases h) topWhole_row_tie rfl ⟨rfl, rfl⟩ (by kernel_rfl) rfl
  (fun f fn hf hfn => by
   obtain rfl : f = 8 := Option.some.inj ((show Tryz.prog.funcNamed Rows.topWholeRow.func = some 8 by kernel_rfl).symm.trans hf) |>.symm
   obtain rfl : fn = Tryz.f8 := (Option.some.inj (Tryz.func8.symm.trans hfn)).symm
   exact ⟨by kernel_rfl, fun j t ht => by
    rw [Tryz.params8] at ht
    have hm : t ∈ [44, 44] := by simpa using Array.mem_of_getElem? ht
    have hall : ([44, 44].all fun u => !Tryz.prog.wantsStandIn u) = true := by kernel_rfl
    exact (show Tryz.prog.wantsStandIn t = false by simpa using List.all_eq_true.1 hall t hm)⟩)
  (by kernel_rfl)

end Go.Proofs.YtnhbfehfipafoaaGreatDoor
