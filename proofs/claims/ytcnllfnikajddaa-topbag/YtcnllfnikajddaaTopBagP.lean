/- TopBagSaid, proved: of any operations and any vector, what is put into a lattice of the catalog and taken out again leaves the lattice as it was, and in whichever order its generators were put in, it is the same. No condition. -/
import Derived.Test.YtcnllfnikajddaaBiH
import Derived.Test.YtcnllfnikajddaaBiI
import Derived.Test.YtcnllfnikajddaaOpenO
namespace Go.Proofs.Ytcnllfnikajddaa
open Go.ChangeShapes Go.WideShapes Go.ChangeAt Go.RowKit Go.Joins

theorem topBag_any (w : World) (v0 v1 : Value) (os : List OpC) (vs : List Int) (h0 : OpsN w v0 os) (h1 : RowS w v1 vs) :
  Calls Try.prog 3 #[v0, v1] w (fun e w' => e = .returned (.bool true) ∧ Below w.heap.size w w') := by
 obtain ⟨ao, cap, rfl, -⟩ := id h0
 obtain ⟨vo, vc, rfl⟩ := RowS.form h1
 exact topBag_H w ao vo cap vc os vs h0 (fun h10 W' co cl ck qs a1 a2 a3 a4 => topBag_B w W' vo vc w.heap.size vs a1 h1 h10 co cl ck qs a2 a3 a4)

set_option maxRecDepth 100000 in
theorem topBag_lifted (os : Os) (started : os.Started) (H : Type) (enc : TypeId × Value → H) :
  ReturnsInHanded {} Try.checked os 3 .any (Rows.topBagSpec.pre6 enc Try.prog Try.f3 Rows.topBagRow.domain false) (Rows.topBagSpec.post enc Try.prog Try.f3 false true false false) := by
 refine returnsInHanded_of_change (C := Try.checked) Try.own started (by kernel_rfl) Try.func3
  (ChangeSpec.witness6 (enc := enc) (C := Try.checked) false ⟨#[], #[.slice none 0 0, .slice none 0 0], []⟩ 8 (by kernel_rfl) (by kernel_rfl) (by kernel_rfl) (by kernel_rfl)) ?_
 intro W base args ds gs before hval0 hW hcnd _
 have hval : ∀ (j : Nat) t v, Try.f3.params[j]? = some t → args[j]? = some v → Value.okWide Try.prog W .any base t v := hval0
 have hW' := hW
 obtain ⟨p, q, hA0, hV, rfl, hfz, hnd⟩ := hW
 have hA : DataW.TrodAll enc Try.prog W 0 (fun _ => true) true Try.f3.params.toList args.toList ds p := hA0
 rw [Try.params3] at hA hval
 obtain ⟨v0, v1, d0, d1, p0, p1, rfl, rfl, rfl, h0, h1⟩ := trodAll_two hA
 obtain ⟨rfl, rfl⟩ := trodVars_none hV
 have lt0 : ∀ x ∈ p0, x.block < W.heap.size := by obtain ⟨m, hm⟩ := h0; exact DataW.trod_lt m _ _ _ hm
 have lt1 : ∀ x ∈ p1, x.block < W.heap.size := by obtain ⟨m, hm⟩ := h1; exact DataW.trod_lt m _ _ _ hm
 obtain ⟨os', hO⟩ := open_opsV (hval 0 22 v0 rfl rfl) h0
 obtain ⟨vs, hR⟩ := open_rowV (hval 1 23 v1 rfl rfl) h1
 clear hA0 hval0
 refine (topBag_any W v0 v1 os' vs hO hR).mono fun e W' ⟨he, bel⟩ => ?_
 subst he
 exact ⟨_, rfl, _, _, _, [], _, [], hW', trodAll_mk1 (shut_bool Try.underlying4 _), (trodAll_cons_mk (Below.trod Try.laidOut (by kernel_rfl) (of_decide_eq_true (by kernel_rfl)) h0 bel lt0) (trodAll_cons_mk (Below.trod Try.laidOut (by kernel_rfl) (of_decide_eq_true (by kernel_rfl)) h1 bel lt1) trodAll_mk0)), rfl, bel.frame _, fun h => by cases h⟩

theorem topBag_holds : Rows.TopBagSaid :=
 OpenClaim.holds_of_wide 3 Try.f3 rfl rfl rfl rfl rfl rfl rfl ⟨rfl, rfl, rfl, rfl, rfl⟩ rfl rfl rfl rfl rfl (by kernel_rfl) Try.func3 (by kernel_rfl)
  (of_decide_eq_true (by kernel_rfl)) (by unfold Func.isWrapper; first | (rw [if_pos (by decide +kernel)]; kernel_rfl) | (rw [if_neg (by decide +kernel)]; exact ⟨rfl, rfl⟩))
  (fun os started H enc _ => topBag_lifted os started H enc)

end Go.Proofs.Ytcnllfnikajddaa
