/- L.Made: the walk. -/
import Derived.Test.YtdedolkgcdlmeaaGreatDoorLatJ
import Derived.Test.YtdedolkgcdlmeaaGreatDoorLatH
namespace Go.Proofs.YtdedolkgcdlmeaaGreatDoor
open Go.RowKit Limbs Digs

/-- Two come up now: in whichever order. -/
theorem upto_two {P : Program} {ops : Array Oper} {Q : Exit → Act → World → Prop} {md : Region.Mode} {S : World → Prop} {k : Nat} (i j : Nat) {oi oj : Oper} {fuel : Nat} {listed : Array Bool} {a : Act} {w : World} (hr : Region.ready md ops listed = [i, j]) (hoi : ops[i]? = some oi) (hoj : ops[j]? = some oj)
    (h1 : ∀ K' : Act → World → Prop, Shut (∀ a w, (i < k → S w) → wpUpto P md ops Q S k fuel (listed.setIfInBounds i true) a w → K' a w) → if Region.wanted oi (yielded ops a.tmps) = true then Oper.wp P oi a w K' Q else K' (a.put oi.dst undef) w)
    (h2 : ∀ K' : Act → World → Prop, Shut (∀ a w, (j < k → S w) → wpUpto P md ops Q S k fuel (listed.setIfInBounds j true) a w → K' a w) → if Region.wanted oj (yielded ops a.tmps) = true then Oper.wp P oj a w K' Q else K' (a.put oj.dst undef) w) :
    wpUpto P md ops Q S k (fuel + 1) listed a w := by
  refine ⟨fun h0 => absurd (hr.symm.trans h0) (by simp), fun x hx => ?_⟩
  rw [hr] at hx
  have hx' : x = i ∨ x = j := by simpa using hx
  rcases hx' with rfl | rfl
  · exact wpOp_step hoi (fun K' hK => h1 K' (fun a w hS hW => hK a w ⟨hS, hW⟩))
  · exact wpOp_step hoj (fun K' hK => h2 K' (fun a w hS hW => hK a w ⟨hS, hW⟩))

set_option maxRecDepth 100000 in
set_option maxHeartbeats 1600000 in
theorem made_far (w : World) (nI : Int) (go : Option Addr) (gcap : Nat) (rs : List (List Int)) (h : ¬ (1 ≤ nI ∧ nI ≤ 4 ∧ rs.length ≤ 8)) :
    Calls Tryz.prog 22 #[.agg #[.int .i64 nI, .slice go rs.length gcap]] w fun e w' => MadePost w nI rs e w' := by
  have HE : Hid (goodG nI rs = false) := by show _ = _; unfold goodG; rw [decide_eq_false h, Bool.false_and]
  have HX := hide (two_boxes w (.int .i64 nI) (.slice go rs.length gcap) (.int .i64 0) (.slice none 0 0) 53 55)
  obtain ⟨⟨c0, c1, z0, z1⟩, ⟨d0, d1, y0, y1⟩, -, -⟩ := HX.out
  have HB := hide HX.out.2.2.1
  by_cases h1 : nI < 1
  · clear h
    have g1 : decide (nI < 1) = true := decide_eq_true h1
    clear HX
    go_enter Tryz.func22, Tryz.ntmps22
    go_wp2
    exact bodyPost_ret (v := .tuple #[.agg #[.int .i64 0, .slice none 0 0], .slice none 0 0, .bool false]) (by simp [results, Tryz.results22, go_sem, d0, d1]) rfl ⟨HB.out, .inl ⟨HE.out, rfl⟩⟩

  · by_cases h2 : 4 < nI
    · clear h
      have g1 : decide (nI < 1) = false := decide_eq_false h1; have g2 : decide (4 < nI) = true := decide_eq_true h2
      clear HX
      go_enter Tryz.func22, Tryz.ntmps22
      go_wp2
      exact bodyPost_ret (v := .tuple #[.agg #[.int .i64 0, .slice none 0 0], .slice none 0 0, .bool false]) (by simp [results, Tryz.results22, go_sem, d0, d1]) rfl ⟨HB.out, .inl ⟨HE.out, rfl⟩⟩

    · have h3 : 8 < (rs.length : Int) := by omega
      clear h
      have g1 : decide (nI < 1) = false := decide_eq_false h1; have g2 : decide (4 < nI) = false := decide_eq_false h2; have g3 : decide (8 < (rs.length : Int)) = true := decide_eq_true h3
      clear HX
      go_enter Tryz.func22, Tryz.ntmps22
      go_wp2
      exact bodyPost_ret (v := .tuple #[.agg #[.int .i64 0, .slice none 0 0], .slice none 0 0, .bool false]) (by simp [results, Tryz.results22, go_sem, d0, d1]) rfl ⟨HB.out, .inl ⟨HE.out, rfl⟩⟩

end Go.Proofs.YtdedolkgcdlmeaaGreatDoor
