/- TopPackCardSaid, proved: of any operations, an operation's bytes are read as it, whatever can be done has bytes, and the text of the catalog behind those that can be done is read as it. No condition beside the card's own tie of seven variables to the program's text. -/
import Derived.Test.YtmalhbkmfddhoaaDoorOpenO
import Derived.Test.YtmalhbkmfddhoaaDoorCards
import Derived.Test.YtmalhbkmfddhoaaDoorTie
import Derived.LaidMore
import Derived.LaidSub
import Derived.Lib.LaidTab
import Derived.ChangeMaps5
import Derived.OpenShut
import Derived.Stop.Joined
import Derived.SevenTiedAt
import Derived.Shelf.Vars
import Derived.Lay
import Derived.MakeChecks
namespace Go.Proofs.YtmalhbkmfddhoaaDoor
open Go.ChangeShapes Go.WideShapes Go.ChangeAt Go.RowKit Go.Joins

theorem topPack_any (w : World) (ht : TabP w) (hm : MaxL w) (v : Value) (os : List OpC) (h : OpsN w v os) :
  Calls Tryd.prog 3 #[v] w fun e w' => e = .returned (.bool true) ∧ Below w.heap.size w w' := by
 obtain ⟨ao, cap, rfl, -⟩ := id h
 exact topPack_H w ao cap os h ht hm

theorem tab_of_laid_pack {W : World} (h : laidMetH Tryd.prog Rows.topPackRow.laid W) : TabP W := by
 have h1 := h.filter (fun x => x.1 == "internal/strconv.uint64pow10")
 have e : (Rows.topPackRow.laid.filter fun x => x.1 == "internal/strconv.uint64pow10") = [("internal/strconv.uint64pow10", Lib.tabData .u64 Lib.pow10Tab)] := by rfl
 rw [e] at h1
 have h2 : laidMet Tryd.prog [("internal/strconv.uint64pow10", Lib.tabData .u64 Lib.pow10Tab)] W := (laidMetH_iff.1 h1).1
 exact Lib.tabIs_of_head (g := 3) (t := 134) (e := 113) (by kernel_rfl) (by kernel_rfl) Tryd.underlying134 Tryd.underlying113 (by kernel_rfl) (by kernel_rfl) h2

theorem maxLen_set {W : World} (h : W.ShapedOpen Tryd.prog) : MaxL W := by
 obtain ⟨m, hm⟩ := cell_of_shapedOpen_int (g := 0) (t := 3) (zero := #[.int .i64 0]) h (of_decide_eq_true (by kernel_rfl)) (by kernel_rfl) rfl (by kernel_rfl) (by kernel_rfl) Tryd.underlying3
 exact ⟨m, hm, World.block_lt_of_cell? W _ hm⟩

theorem Tryd.own : ownKnob Tryd.prog.godebug = none := by kernel_rfl
theorem Tryd.laidOut : laidOutB Tryd.prog = true := by kernel_rfl

set_option maxRecDepth 100000 in
theorem topPack_lifted (os : Os) (started : os.Started) (H : Type) (enc : TypeId × Value → H) :
  ReturnsInHanded {} Tryd.checked os 3 .any (fun w args => (Rows.topPackSpec.pre enc Tryd.prog Tryd.f3 [] false w args ∧ laidMetH Tryd.prog Rows.topPackRow.laid w) ∧ sizedMet enc Tryd.prog Tryd.f3 (OpenSpec.ofChange Rows.topPackSpec) false w args)
   (Rows.topPackSpec.post enc Tryd.prog Tryd.f3 false true false false) := by
 refine returnsInHanded_of_calls Tryd.own started (by kernel_rfl)
  (ChangeSpec.witness_shaped (enc := enc) (C := Tryd.checked) (os := os) (X := fun w _ => laidMetH Tryd.prog Rows.topPackRow.laid w) false (World.laidAll Tryd.prog os Rows.topPackRow.laid) #[.slice none 0 0] 8 (World.laidAll_os _ _ _) (World.shaped_of_ZipB (by kernel_rfl) (by kernel_rfl)) (by kernel_rfl) (by kernel_rfl) (by kernel_rfl)
   (by rw [MakeChecks.laidMetH_plain _ _ _ (by kernel_rfl)]; exact laidMet_laidAll _ (by kernel_rfl) (by kernel_rfl))) ?_
 intro w0 tape i _ hsh _ hok hpre _
 obtain ⟨_, _, _, fn', hfn', _, _, _, _, hval0⟩ := hok
 have efn : fn' = Tryd.f3 := Option.some.inj (hfn'.symm.trans Tryd.func3)
 subst efn
 obtain ⟨⟨⟨ds, gs, before, hw0, -⟩, hL0⟩, -⟩ := hpre
 have hW := DataW.Whole.of_heap (w' := w0.forCall tape i) (by rfl) hw0
 have hL : laidMetH Tryd.prog Rows.topPackRow.laid (w0.forCall tape i) := hL0.of_heap (by rfl)
 refine (show Calls Tryd.prog 3 i.args (w0.forCall tape i) (fun e W' => ∃ v, e = .returned v ∧ Rows.topPackSpec.post enc Tryd.prog Tryd.f3 false true false false (w0.forCall tape i) i.args v W') from ?_).mono fun e W' ⟨v, he, hp⟩ => by subst he; exact ChangeSpec.post_blind hp
 have hval : ∀ (j : Nat) t v, Tryd.f3.params[j]? = some t → i.args[j]? = some v → Value.okWide Tryd.prog (w0.forCall tape i) .any w0.heap.size t v := hval0
 generalize w0.forCall tape i = W at *
 generalize i.args = args at *
 have hW' := hW
 obtain ⟨p, q, hA0, hV, rfl, hfz, hnd⟩ := hW
 have hA : DataW.TrodAll enc Tryd.prog W 0 (fun _ => true) true Tryd.f3.params.toList args.toList ds p := hA0
 rw [Tryd.params3] at hA hval
 obtain ⟨v0, d0, rfl, rfl, h0⟩ := trodAll_one hA
 obtain ⟨rfl, rfl⟩ := trodVars_none hV
 have lt0 : ∀ x ∈ p, x.block < W.heap.size := by obtain ⟨m, hm⟩ := h0; exact DataW.trod_lt m _ _ _ hm
 obtain ⟨os', hO⟩ := open_opsV (hval 0 22 v0 rfl rfl) h0
 clear hA0
 refine (topPack_any W (tab_of_laid_pack hL) (maxLen_set hsh) v0 os' hO).mono fun e W' ⟨he, bel⟩ => ?_
 subst he
 exact ⟨_, rfl, _, _, _, [], _, [], hW', trodAll_mk1 (shut_bool Tryd.underlying4 _), (trodAll_cons_mk (Below.trod Tryd.laidOut (by kernel_rfl) (of_decide_eq_true (by kernel_rfl)) h0 bel lt0) trodAll_mk0), rfl, bel.frame _, fun h => by cases h⟩

theorem topPack_row : Rows.TopPackSaid :=
 OpenClaim.holds_of_wide 3 Tryd.f3 rfl rfl rfl rfl rfl rfl rfl ⟨rfl, rfl, rfl, rfl, rfl⟩ rfl rfl rfl rfl rfl (by kernel_rfl) Tryd.func3 (by kernel_rfl)
  (of_decide_eq_true (by kernel_rfl)) (by unfold Func.isWrapper; first | (rw [if_pos (by decide +kernel)]; kernel_rfl) | (rw [if_neg (by decide +kernel)]; exact ⟨rfl, rfl⟩))
  (fun os started H enc _ => topPack_lifted os started H enc)

theorem topPack_holds : Rows.TopPackCardSaid :=
 Claim7.holds_tied_plain_at .later [] [.data, .data, .data, .data, .sentinel, .sentinel, .pinned] true Rows.topPackCard.stood.harness Rows.topPackCard.stood.looks
  topPack_row (fun _ h => by cases h) (by kernel_rfl) (fun _ h => by cases h) topPack_row_tie rfl ⟨rfl, rfl⟩ (by kernel_rfl) rfl
  (fun f fn hf hfn => by
   obtain rfl : f = 3 := Option.some.inj ((show Tryd.prog.funcNamed Rows.topPackRow.func = some 3 by kernel_rfl).symm.trans hf) |>.symm
   obtain rfl : fn = Tryd.f3 := (Option.some.inj (Tryd.func3.symm.trans hfn)).symm
   exact ⟨by kernel_rfl, fun j t ht => by
    rw [Tryd.params3] at ht
    have hm : t ∈ [22] := by simpa using Array.mem_of_getElem? ht
    have hall : ([22].all fun u => !Tryd.prog.wantsStandIn u) = true := by kernel_rfl
    exact (show Tryd.prog.wantsStandIn t = false by simpa using List.all_eq_true.1 hall t hm)⟩)
  (by kernel_rfl)

end Go.Proofs.YtmalhbkmfddhoaaDoor
