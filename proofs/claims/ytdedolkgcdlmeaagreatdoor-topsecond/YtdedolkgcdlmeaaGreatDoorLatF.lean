/- Lattices: sizes, new ones, the checks of those that are. -/
import Derived.Test.YtdedolkgcdlmeaaGreatDoorLatE
namespace Go.Proofs.YtdedolkgcdlmeaaGreatDoor
open Go.RowKit Limbs

/-- A lattice. -/
def LatN (w : World) (v : Value) (n : Nat) (hs : List (List Int)) (nv : Nat) : Prop := (∃ u, v = .agg #[.int .i64 (n : Int), u] ∧ MatN w u hs nv) ∧ ∃ p, FormL n hs p

theorem LatN.below {w w' : World} {v : Value} {n : Nat} {hs : List (List Int)} {nv : Nat} (h : LatN w v n hs nv) (hb : Below w.heap.size w w') : LatN w' v n hs nv := by
  obtain ⟨⟨u, e, hu⟩, hp⟩ := h
  exact ⟨⟨u, e, hu.below hb (Nat.le_refl _)⟩, hp⟩

set_option maxRecDepth 100000 in
theorem size_any (w : World) (n : Int) : Calls Tryz.prog 74 #[.int .i64 n] w fun e w' => e = .returned (.bool (decide (1 ≤ n ∧ n ≤ 4))) ∧ Below w.heap.size w w' := by
  by_cases h1 : 1 ≤ n
  · by_cases h2 : n ≤ 4
    · have e : decide (1 ≤ n ∧ n ≤ 4) = true := decide_eq_true ⟨h1, h2⟩
      rw [e]
      clear e
      have g1 : decide (1 ≤ n) = true := decide_eq_true h1
      have g2 : decide (n ≤ 4) = true := decide_eq_true h2
      go_enter Tryz.func74, Tryz.ntmps74
      go_wp2
      go_ret
      exact ⟨rfl, Below.refl _ _⟩
    · have e : decide (1 ≤ n ∧ n ≤ 4) = false := decide_eq_false (fun h => h2 h.2)
      rw [e]
      clear e
      have g1 : decide (1 ≤ n) = true := decide_eq_true h1
      have g2 : decide (n ≤ 4) = false := decide_eq_false h2
      go_enter Tryz.func74, Tryz.ntmps74
      go_wp2
      go_ret
      exact ⟨rfl, Below.refl _ _⟩
  · have e : decide (1 ≤ n ∧ n ≤ 4) = false := decide_eq_false (fun h => h1 h.1)
    rw [e]
    clear e
    have g1 : decide (1 ≤ n) = false := decide_eq_false h1
    go_enter Tryz.func74, Tryz.ntmps74
    go_wp2
    go_ret
    exact ⟨rfl, Below.refl _ _⟩

theorem formL_nil (n : Nat) : FormL n [] (fun _ => 0) :=
  ⟨(fun _ h => by cases h), ⟨fun i k _ hk => absurd hk (by simp), fun i hi => absurd hi (by simp), fun i b hi _ => absurd hi (by simp), fun i hi => absurd hi (by simp), fun i k _ hk => absurd hk (by simp)⟩⟩

theorem matN_nil (w : World) (n : Nat) : MatN w (.slice none 0 0) [] n := ⟨none, 0, rfl, Nat.le_refl _, fun h => absurd h (by simp)⟩

set_option maxRecDepth 100000 in
set_option maxHeartbeats 1600000 in
theorem newL_ok (w : World) (n nv : Nat) (h1 : 1 ≤ n) (h4 : n ≤ 4) :
    Calls Tryz.prog 71 #[.int .i64 (n : Int)] w fun e w' => e = .returned (.tuple #[.agg #[.int .i64 (n : Int), .slice none 0 0], .nilIface]) ∧ LatN w' (.agg #[.int .i64 (n : Int), .slice none 0 0]) n [] nv ∧ Below w.heap.size w w' := by
  have HB0 := hide ((Below.refl w.heap.size w).alloc (Nat.le_refl _) (.cells #[.int .i64 0, .slice none 0 0] 55))
  have HC := hide (box_new w (.int .i64 0) (.slice none 0 0) 55 _ rfl)
  have HSZ : Hid (w.heap.size < (w.alloc (.cells #[.int .i64 0, .slice none 0 0] 55)).heap.size) := by show _ < _; simp
  go_enter Tryz.func71, Tryz.ntmps71
  go_wp2_with fail
  generalize w.alloc (.cells #[.int .i64 0, .slice none 0 0] 55) = W0 at *
  refine (size_any W0 (n : Int)).mono ?_
  rintro e w1 ⟨rfl, hb1⟩
  have e : decide (1 ≤ (n : Int) ∧ (n : Int) ≤ 4) = true := decide_eq_true ⟨by omega, by omega⟩
  rw [e]
  clear e
  have HB1 := hide (HB0.out.trans (hb1.mono HB0.out.size))
  obtain ⟨c0, c1, z0, z1⟩ := HC.out.later hb1 HSZ.out
  have HB2 := hide ((HB1.out.setCell (p := ⟨w.heap.size, 0, none⟩) (by simp) (.int .i64 (n : Int))).setCell (p := ⟨w.heap.size, 1, none⟩) (by simp) (.slice none 0 0))
  clear hb1 HC HSZ HB0 HB1
  go_wp2
  exact bodyPost_ret (v := .tuple #[.agg #[.int .i64 (n : Int), .slice none 0 0], .nilIface]) (by simp [results, Tryz.results71, go_sem, c0, c1]) rfl ⟨rfl, ⟨⟨_, rfl, matN_nil _ _⟩, _, formL_nil _⟩, HB2.out⟩

set_option maxRecDepth 100000 in
set_option maxHeartbeats 1600000 in
theorem checkL_ok (w : World) (v : Value) (n nv : Nat) (hs : List (List Int)) (h : LatN w v n hs nv) (h1 : 1 ≤ n) (h4 : n ≤ 4) :
    Calls Tryz.prog 25 #[v] w fun e w' => e = .returned .nilIface ∧ Below w.heap.size w w' := by
  obtain ⟨⟨u, rfl, hu⟩, p, hF⟩ := h
  have HU := hide hu; have HF := hide hF
  have hlen := hF.short
  obtain ⟨uo, ucap, rfl, -, -⟩ := hu
  clear hF
  have HB0 := hide ((Below.refl w.heap.size w).alloc (Nat.le_refl _) (.cells #[.int .i64 (n : Int), .slice uo hs.length ucap] 55))
  have HC := hide (box_new w (.int .i64 (n : Int)) (.slice uo hs.length ucap) 55 _ rfl)
  have HSZ : Hid (w.heap.size < (w.alloc (.cells #[.int .i64 (n : Int), .slice uo hs.length ucap] 55)).heap.size) := by show _ < _; simp
  go_enter Tryz.func25, Tryz.ntmps25
  go_wp2_with fail
  generalize w.alloc (.cells #[.int .i64 (n : Int), .slice uo hs.length ucap] 55) = W0 at *
  refine (size_any W0 (n : Int)).mono ?_
  rintro e w1 ⟨rfl, hb1⟩
  have e : decide (1 ≤ (n : Int) ∧ (n : Int) ≤ 4) = true := decide_eq_true ⟨by omega, by omega⟩
  rw [e]
  clear e
  have HB1 := hide (HB0.out.trans (hb1.mono HB0.out.size))
  have HD := hide (HC.out.later hb1 HSZ.out)
  have HS1 := hide (Nat.lt_of_lt_of_le HSZ.out hb1.size)
  obtain ⟨c0, c1, z0, z1⟩ := HD.out
  clear hb1 HC HSZ HB0
  go_wp2_with fail
  refine (checkM_ok w1 _ hs n nv (by exact HU.out.below HB1.out (Nat.le_refl _)) h1 (by omega) (by omega) HF.out.len).mono ?_
  rintro e w2 ⟨rfl, hb2⟩
  have HB2 := hide (HB1.out.trans (hb2.mono HB1.out.size))
  obtain ⟨d0, d1, y0, y1⟩ := HD.out.later hb2 HS1.out
  clear hb2 HB1 HD c0 c1 z0 z1
  go_wp2_with fail
  refine (latForm_yes w2 _ hs n nv p (by exact HU.out.below HB2.out (Nat.le_refl _)) HF.out (by omega) (by omega)).mono ?_
  rintro e w3 ⟨rfl, hb3⟩
  have HB3 := hide (HB2.out.trans (hb3.mono HB2.out.size))
  clear hb3 HB2 d0 d1 y0 y1
  go_wp2
  go_ret
  exact ⟨rfl, HB3.out⟩

end Go.Proofs.YtdedolkgcdlmeaaGreatDoor
