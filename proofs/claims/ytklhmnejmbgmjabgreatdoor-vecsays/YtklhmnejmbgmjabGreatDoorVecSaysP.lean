/- VecSaysCardSaid, proved: of any two vectors, a number, rows and a text, what the program says of them and makes of them (what is wrong with a vector, which vector a text is, sums, differences, multiples, the first place that isn't nought, texts, so much of each row) is what the document's words say. No condition beside the card's own tie of five tables to the program's text. -/
import Derived.Test.YtklhmnejmbgmjabGreatDoorVSI
import Derived.Test.YtklhmnejmbgmjabGreatDoorCards
import Derived.Test.YtklhmnejmbgmjabGreatDoorOpens
import Derived.Test.YtklhmnejmbgmjabGreatDoorTie
import Derived.LaidMore
import Derived.LaidSub
import Derived.Lib.LaidTab
import Derived.ChangeMaps5
import Derived.OpenShut
import Derived.Stop.Joined
import Derived.SevenTiedAt
import Derived.Shelf.Vars
import Derived.Lay
import Derived.Carry
import Derived.MakeChecks
namespace Go.Proofs.YtklhmnejmbgmjabGreatDoor
open Go.ChangeShapes Go.WideShapes Go.ChangeAt Go.RowKit Go.Joins Limbs

theorem trodAll_five {H : Type} {enc : TypeId × Value → H} {P : Program} {w : World} {base : Nat} {spare : Nat → Bool} {held : Bool} {t t' t'' t3 t4 : TypeId} {args : Array Value} {ds : List (DataW H)} {ps : List MemPlace} (h : DataW.TrodAll enc P w base spare held [t, t', t'', t3, t4] args.toList ds ps) :
    ∃ v0 v1 v2 v3 v4 d0 d1 d2 d3 d4 p0 p1 p2 p3 p4, args = #[v0, v1, v2, v3, v4] ∧ ds = [d0, d1, d2, d3, d4] ∧ ps = p0 ++ (p1 ++ (p2 ++ (p3 ++ p4))) ∧
      DataW.Trod enc P w base spare held t v0 d0 p0 ∧ DataW.Trod enc P w base spare held t' v1 d1 p1 ∧ DataW.Trod enc P w base spare held t'' v2 d2 p2 ∧ DataW.Trod enc P w base spare held t3 v3 d3 p3 ∧ DataW.Trod enc P w base spare held t4 v4 d4 p4 := by
  obtain ⟨v0, vs, d0, ds', p0, ps', e0, rfl, rfl, h0, hr⟩ := trodAll_cons h
  have e1 : vs = (vs.toArray).toList := by simp
  rw [e1] at hr
  obtain ⟨v1, v2, v3, v4, d1, d2, d3, d4, p1, p2, p3, p4, e2, rfl, rfl, h1, h2, h3, h4⟩ := trodAll_four hr
  refine ⟨v0, v1, v2, v3, v4, d0, d1, d2, d3, d4, p0, p1, p2, p3, p4, ?_, rfl, by simp, h0, h1, h2, h3, h4⟩
  apply Array.toList_inj.1
  rw [e0]
  have : vs = [v1, v2, v3, v4] := by
    have := congrArg Array.toList e2
    simpa using this
  rw [this]

theorem vecSays_any (w : World) (ht : Tab w) (hm : MaxLenSet w) (va vb vk vm : Value) (s : ByteArray) {kn : Bool} {ko : Option Addr} {kc : Nat} {kz : List Int} {ras rbs : List Raw} {rss : List (List Raw)}
    (ha : VecC w va ras) (hb : VecC w vb rbs) (hk : Came w vk kn ko kc kz) (hM : MatC w vm rss) (hs : s.size ≤ 9223372036854775807) :
    Calls Tryz.prog 3 #[va, vb, vk, vm, .string s] w fun e w' => e = .returned (.bool true) ∧ Below w.heap.size w w' := by
  obtain ⟨rfl, lk, hk⟩ := hk
  by_cases h : lightV ras = true ∧ lightV rbs = true ∧ lightM rss 60 = true ∧ kz.length ≤ 8 ∧ s.size ≤ 300
  · exact vecSays_in w va vb vm s kn ko kc kz ras rbs rss ht hm ha hb hM (hk (by omega)) h.2.2.2.1 h.2.2.2.2 h.1 h.2.1 h.2.2.1
  · exact vecSays_not w va vb vm s kn ko kc kz ras rbs rss ht ha hb hM lk hs h

theorem tab_of_laid_vec {W : World} (h : laidMetH Tryz.prog Rows.vecSaysRow.laid W) : Tab W := by
  have h1 := h.filter (fun x => x.1 == "internal/strconv.uint64pow10")
  have e : (Rows.vecSaysRow.laid.filter fun x => x.1 == "internal/strconv.uint64pow10") = [("internal/strconv.uint64pow10", Lib.tabData .u64 Lib.pow10Tab)] := by rfl
  rw [e] at h1
  have h2 : laidMet Tryz.prog [("internal/strconv.uint64pow10", Lib.tabData .u64 Lib.pow10Tab)] W := (laidMetH_iff.1 h1).1
  exact Lib.tabIs_of_head (g := 4) (t := 186) (e := 137) (by kernel_rfl) (by kernel_rfl) Tryz.underlying186 Tryz.underlying137 (by kernel_rfl) (by kernel_rfl) h2

theorem maxLen_set {W : World} (h : W.ShapedOpen Tryz.prog) : MaxLenSet W :=
  cell_of_shapedOpen_int (g := 0) (t := 3) (zero := #[.int .i64 0]) h (of_decide_eq_true (by kernel_rfl)) (by kernel_rfl) rfl (by kernel_rfl) (by kernel_rfl) Tryz.underlying3

set_option maxRecDepth 100000 in
theorem vecSays_lifted (os : Os) (started : os.Started) (H : Type) (enc : TypeId × Value → H) :
    ReturnsInHanded {} Tryz.checked os 3 .any (fun w args => (Rows.vecSaysSpec.pre enc Tryz.prog Tryz.f3 [] false w args ∧ laidMetH Tryz.prog Rows.vecSaysRow.laid w) ∧ sizedMet enc Tryz.prog Tryz.f3 (OpenSpec.ofChange Rows.vecSaysSpec) false w args)
      (Rows.vecSaysSpec.post enc Tryz.prog Tryz.f3 false true false false) := by
  refine returnsInHanded_of_calls Tryz.own started (by kernel_rfl)
    (ChangeSpec.witness_shaped (enc := enc) (C := Tryz.checked) (os := os) (X := fun w _ => laidMetH Tryz.prog Rows.vecSaysRow.laid w) false (World.laidAll Tryz.prog os Rows.vecSaysRow.laid) #[.slice none 0 0, .slice none 0 0, .agg #[.bool false, .slice none 0 0], .slice none 0 0, .string ByteArray.empty] 8 (World.laidAll_os _ _ _) (World.shaped_of_ZipB (by kernel_rfl) (by kernel_rfl)) (by kernel_rfl) (by kernel_rfl) (by kernel_rfl)
      (by rw [MakeChecks.laidMetH_plain _ _ _ (by kernel_rfl)]; exact laidMet_laidAll _ (by kernel_rfl) (by kernel_rfl))) ?_
  intro w0 tape i _ hsh _ hok hpre _
  obtain ⟨_, _, _, fn', hfn', _, _, _, _, hval0⟩ := hok
  have efn : fn' = Tryz.f3 := Option.some.inj (hfn'.symm.trans Tryz.func3)
  subst efn
  obtain ⟨⟨⟨ds, gs, before, hw0, -⟩, hL0⟩, -⟩ := hpre
  have hW := DataW.Whole.of_heap (w' := w0.forCall tape i) (by rfl) hw0
  have hL : laidMetH Tryz.prog Rows.vecSaysRow.laid (w0.forCall tape i) := hL0.of_heap (by rfl)
  refine (show Calls Tryz.prog 3 i.args (w0.forCall tape i) (fun e W' => ∃ v, e = .returned v ∧ Rows.vecSaysSpec.post enc Tryz.prog Tryz.f3 false true false false (w0.forCall tape i) i.args v W') from ?_).mono fun e W' ⟨v, he, hp⟩ => by subst he; exact ChangeSpec.post_blind hp
  have hval : ∀ (j : Nat) t v, Tryz.f3.params[j]? = some t → i.args[j]? = some v → Value.okWide Tryz.prog (w0.forCall tape i) .any w0.heap.size t v := hval0
  generalize w0.forCall tape i = W at *
  generalize i.args = args at *
  have hW' := hW
  obtain ⟨p, q, hA0, hV, rfl, hfz, hnd⟩ := hW
  have hA : DataW.TrodAll enc Tryz.prog W 0 (fun _ => true) true Tryz.f3.params.toList args.toList ds p := hA0
  rw [Tryz.params3] at hA hval
  obtain ⟨v0, v1, v2, v3, v4, d0, d1, d2, d3, d4, p0, p1, p2, p3, p4, rfl, rfl, rfl, h0, h1, h2, h3, h4⟩ := trodAll_five hA
  obtain ⟨rfl, rfl⟩ := trodVars_none hV
  have lt0 : ∀ x ∈ p0, x.block < W.heap.size := by obtain ⟨m, hm⟩ := h0; exact DataW.trod_lt m _ _ _ hm
  have lt1 : ∀ x ∈ p1, x.block < W.heap.size := by obtain ⟨m, hm⟩ := h1; exact DataW.trod_lt m _ _ _ hm
  have lt2 : ∀ x ∈ p2, x.block < W.heap.size := by obtain ⟨m, hm⟩ := h2; exact DataW.trod_lt m _ _ _ hm
  have lt3 : ∀ x ∈ p3, x.block < W.heap.size := by obtain ⟨m, hm⟩ := h3; exact DataW.trod_lt m _ _ _ hm
  have lt4 : ∀ x ∈ p4, x.block < W.heap.size := by obtain ⟨m, hm⟩ := h4; exact DataW.trod_lt m _ _ _ hm
  obtain ⟨ras, ha⟩ := open_vec (hval 0 23 v0 rfl rfl) h0
  obtain ⟨rbs, hb⟩ := open_vec (hval 1 23 v1 rfl rfl) h1
  obtain ⟨kn, ko, kc, kz, hk⟩ := open_num (hval 2 26 v2 rfl rfl) h2
  obtain ⟨rss, hM⟩ := open_mat (hval 3 28 v3 rfl rfl) h3
  have h4' := h4
  obtain ⟨s, rfl, rfl, rfl, hss⟩ := Go.ChangeMaps.open_string Tryz.underlying9 (hval 4 9 v4 rfl rfl) h4'
  clear hA0
  refine (vecSays_any W (tab_of_laid_vec hL) (maxLen_set hsh) v0 v1 v2 v3 s ha hb hk hM (by unfold maxLen at hss; omega)).mono fun e W' ⟨he, bel⟩ => ?_
  subst he
  exact ⟨_, rfl, _, _, _, [], _, [], hW', trodAll_mk1 (shut_bool Tryz.underlying4 _), (trodAll_cons_mk (Below.trod Tryz.laidOut (by kernel_rfl) (of_decide_eq_true (by kernel_rfl)) h0 bel lt0) (trodAll_cons_mk (Below.trod Tryz.laidOut (by kernel_rfl) (of_decide_eq_true (by kernel_rfl)) h1 bel lt1) (trodAll_cons_mk (Below.trod Tryz.laidOut (by kernel_rfl) (of_decide_eq_true (by kernel_rfl)) h2 bel lt2) (trodAll_cons_mk (Below.trod Tryz.laidOut (by kernel_rfl) (of_decide_eq_true (by kernel_rfl)) h3 bel lt3) (trodAll_cons_mk (Below.trod Tryz.laidOut (by kernel_rfl) (of_decide_eq_true (by kernel_rfl)) h4 bel lt4) trodAll_mk0))))), rfl, bel.frame _, fun h => by cases h⟩

theorem vecSays_row : Rows.VecSaysSaid :=
  OpenClaim.holds_of_wide 3 Tryz.f3 rfl rfl rfl rfl rfl rfl rfl ⟨rfl, rfl, rfl, rfl, rfl⟩ rfl rfl rfl rfl rfl (by kernel_rfl) Tryz.func3 (by kernel_rfl)
    (of_decide_eq_true (by kernel_rfl)) (by unfold Func.isWrapper; first | (rw [if_pos (by decide +kernel)]; kernel_rfl) | (rw [if_neg (by decide +kernel)]; exact ⟨rfl, rfl⟩))
    (fun os started H enc _ => vecSays_lifted os started H enc)

theorem vecSays_holds : Rows.VecSaysCardSaid :=
  Claim7.holds_tied_plain_at .later [] [.data, .data, .data, .data, .pinned] true Rows.vecSaysCard.stood.harness Rows.vecSaysCard.stood.looks
    vecSays_row (fun _ h => by cases h) (by kernel_rfl) (fun _ h => by cases h) vecSays_row_tie rfl ⟨rfl, rfl⟩ (by kernel_rfl) rfl
    (fun f fn hf hfn => by
      obtain rfl : f = 3 := Option.some.inj ((show Tryz.prog.funcNamed Rows.vecSaysRow.func = some 3 by kernel_rfl).symm.trans hf) |>.symm
      obtain rfl : fn = Tryz.f3 := (Option.some.inj (Tryz.func3.symm.trans hfn)).symm
      exact ⟨by kernel_rfl, fun j t ht => by
        rw [Tryz.params3] at ht
        have hm : t ∈ [23, 23, 26, 28, 9] := by simpa using Array.mem_of_getElem? ht
        have hall : ([23, 23, 26, 28, 9].all fun u => !Tryz.prog.wantsStandIn u) = true := by kernel_rfl
        exact (show Tryz.prog.wantsStandIn t = false by simpa using List.all_eq_true.1 hall t hm)⟩)
    (by kernel_rfl)

end Go.Proofs.YtklhmnejmbgmjabGreatDoor
