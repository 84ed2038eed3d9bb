/- What rows generate together; new lattices. -/
import Derived.Test.YtjblidoilphifadGreatDoorLatD
import Derived.Test.YtjblidoilphifadGreatDoorRegions
import Derived.Test.YtjblidoilphifadGreatDoorTrim
import Derived.Test.YtjblidoilphifadGreatDoorVecW

namespace Go.Proofs.YtjblidoilphifadGreatDoor
open Go.RowKit Limbs

/-- What generated answers. -/
def GenPost (w : World) (n nv : Nat) (ms : List (List Int)) (e : Ending) (w' : World) : Prop :=
  ∃ u hs p, e = .returned (.agg #[.int .i64 (n : Int), u]) ∧ MatN w' u hs (n * nv + 2) ∧ Below w.heap.size w w' ∧ FormL n hs p ∧ Alikes n (InL hs) (InL ms) ∧ Fresh w.heap.size u

/-- A lattice's own variable is written: rows stay. -/
theorem MatN.setBasis {W : World} {B : Nat} {u : Value} {hs : List (List Int)} {nv : Nat} {x : Int} (y z : Value) (h : MatN W u hs nv) (hpos : ∀ zs ∈ hs, 0 < zs.length) (c0 : W.cell? ⟨B, 0, none⟩ = some (.int .i64 x)) (c1 : W.cell? ⟨B, 1, none⟩ = some (.slice none 0 0)) :
    MatN ((W.setCell ⟨B, 0, none⟩ y).setCell ⟨B, 1, none⟩ z) u hs nv := by
  have k1 : (W.setCell ⟨B, 0, none⟩ y).cell? ⟨B, 1, none⟩ = some (.slice none 0 0) := Eq.trans (World.cell?_setCell_other (h := fun e => by simp at e) ..) c1
  have stay : ∀ (b o : Nat) (v : Value), W.cell? ⟨b, o, none⟩ = some v → ¬ (b = B ∧ o = 0) → ¬ (b = B ∧ o = 1) → ((W.setCell ⟨B, 0, none⟩ y).setCell ⟨B, 1, none⟩ z).cell? ⟨b, o, none⟩ = some v := fun b o v hv h0 h1 =>
    Eq.trans (World.cell?_setCell_other (h := fun e => h1 (by simp only [Addr.mk.injEq, and_true] at e; exact ⟨e.1.symm, e.2.symm⟩)) ..) (Eq.trans (World.cell?_setCell_other (h := fun e => h0 (by simp only [Addr.mk.injEq, and_true] at e; exact ⟨e.1.symm, e.2.symm⟩)) ..) hv)
  have hsz : ((W.setCell ⟨B, 0, none⟩ y).setCell ⟨B, 1, none⟩ z).heap.size = W.heap.size := by simp
  obtain ⟨ao, cap, hv, h1, h2⟩ := h
  refine ⟨ao, cap, hv, h1, fun hh => ?_⟩
  obtain ⟨b, off, e, hlt, hc⟩ := h2 hh
  refine ⟨b, off, e, by rw [hsz]; exact hlt, fun i zs hi => ?_⟩
  obtain ⟨v, cv, hv⟩ := hc i zs hi
  have hzs := hpos zs (List.mem_of_getElem? hi)
  obtain ⟨vb, voff, vcap, rfl⟩ := hv.form hzs
  refine ⟨_, stay _ _ _ cv (fun ⟨e1, e2⟩ => ?_) (fun ⟨e1, e2⟩ => ?_), ?_⟩
  · rw [e1, e2, c0] at cv; cases cv
  · rw [e1, e2, c1] at cv; cases cv
  · have hat := fun j (hj : j < zs.length) => hv.at j hj
    obtain ⟨_, _, ev, g1, -⟩ := hv
    refine ⟨_, _, ev, g1, fun _ => ⟨vb, voff, ?_, by rw [hsz]; exact (hat 0 hzs).1, fun j hj => ?_⟩⟩
    · simp only [Value.slice.injEq, true_and] at ev
      exact ev.1.symm
    · obtain ⟨-, neg, o, l, c, d0, d1, hn⟩ := hat j hj
      refine ⟨neg, o, l, c, stay _ _ _ d0 (fun ⟨e1, e2⟩ => ?_) (fun ⟨e1, e2⟩ => ?_), stay _ _ _ d1 (fun ⟨e1, e2⟩ => ?_) (fun ⟨e1, e2⟩ => ?_), (hn.setCell c0 (by simp)).setCell k1 (by simp)⟩
      · rw [e1, e2, c0] at d0; cases d0
      · rw [e1, e2, c1] at d0; cases d0
      · rw [e1, e2, c0] at d1; cases d1
      · have e3 : voff + j * 2 = 0 := by omega
        rw [e1, e3, c0] at d0; cases d0

set_option maxRecDepth 100000 in
set_option maxHeartbeats 1600000 in
theorem generated_two (w : World) (rb : Nat) (va vb : Value) (xs ys : List (List Int)) (n nv : Nat) (h : TwoM w rb va vb xs ys nv) (hl : xs.length + ys.length ≤ 12) (hn1 : 1 ≤ n) (hn : n ≤ 8) (hr : ∀ us ∈ xs ++ ys, us.length = n) (hN : nbK n (n * nv + 2) nv n ≤ 100000) :
    Calls Tryz.prog 46 #[.int .i64 (n : Int), .slice (some ⟨rb, 0, none⟩) 2 2] w fun e w' => GenPost w n nv (xs ++ ys) e w' := by
  have HT := hide h
  have HR := hide hr; have HN := hide hN
  have HB0 := hide ((Below.refl w.heap.size w).alloc (Nat.le_refl _) (.cells #[.int .i64 0, .slice none 0 0] 25))
  have HC := hide (box_new w (.int .i64 0) (.slice none 0 0) 25 _ rfl)
  have HSZ : Hid (w.heap.size < (w.alloc (.cells #[.int .i64 0, .slice none 0 0] 25)).heap.size) := by show _ < _; simp
  clear h hr hN
  go_enter Tryz.func46, Tryz.ntmps46
  go_wp2_with fail
  generalize w.alloc (.cells #[.int .i64 0, .slice none 0 0] 25) = W0 at *
  refine (concat_two W0 rb va vb xs ys nv (HT.out.below HB0.out) (by omega)).mono ?_
  rintro e w1 ⟨v, rfl, hv, hb1⟩
  have HV := hide hv
  have HB1 := hide (HB0.out.trans (hb1.mono HB0.out.size))
  have HD := hide (HC.out.later hb1 HSZ.out)
  have HS1 := hide (Nat.lt_of_lt_of_le HSZ.out hb1.size)
  clear hv hb1 HC HSZ HB0
  go_wp2_with fail
  refine (hermite_new w1 v (xs ++ ys) n nv HV.out HR.out hn1 hn (by rw [List.length_append]; exact hl) HN.out).mono ?_
  rintro e w2 ⟨u, hs, p, rfl, hu, hlen, hb2, hF, hA, hfr⟩
  have hpos : ∀ zs ∈ hs, 0 < zs.length := fun zs hz => by rw [hF.len zs hz]; omega
  obtain ⟨c0, c1, z0, z1⟩ := HD.out.later hb2 HS1.out
  have HB2 := hide (HB1.out.trans (hb2.mono HB1.out.size))
  have HP : Hid (GenPost w n nv (xs ++ ys) (.returned (.agg #[.int .i64 (n : Int), u])) ((w2.setCell ⟨w.heap.size, 0, none⟩ (.int .i64 (n : Int))).setCell ⟨w.heap.size, 1, none⟩ u)) := ⟨u, hs, p, rfl, hu.setBasis _ _ hpos c0 c1, (HB2.out.setCell (by simp) _).setCell (by simp) _, hF, hA, hfr.mono HB1.out.size⟩
  obtain ⟨uo, ucap, rfl, -, -⟩ := hu
  clear hF hA hfr hpos hb2 HB1 HD HV HT HR HN
  go_wp2
  exact bodyPost_ret (v := .agg #[.int .i64 (n : Int), .slice uo hs.length ucap]) (by simp [results, Tryz.results46, go_sem, c0, c1]) rfl HP.out

end Go.Proofs.YtjblidoilphifadGreatDoor

/- Lattices: sizes, new ones, the checks of those that are. -/
namespace Go.Proofs.YtjblidoilphifadGreatDoor
open Go.RowKit Limbs

/-- A lattice. -/
def LatN (w : World) (v : Value) (n : Nat) (hs : List (List Int)) (nv : Nat) : Prop := (∃ u, v = .agg #[.int .i64 (n : Int), u] ∧ MatN w u hs nv) ∧ ∃ p, FormL n hs p

theorem LatN.below {w w' : World} {v : Value} {n : Nat} {hs : List (List Int)} {nv : Nat} (h : LatN w v n hs nv) (hb : Below w.heap.size w w') : LatN w' v n hs nv := by
  obtain ⟨⟨u, e, hu⟩, hp⟩ := h
  exact ⟨⟨u, e, hu.below hb (Nat.le_refl _)⟩, hp⟩

set_option maxRecDepth 100000 in
theorem size_any (w : World) (n : Int) : Calls Tryz.prog 42 #[.int .i64 n] w fun e w' => e = .returned (.bool (decide (1 ≤ n ∧ n ≤ 4))) ∧ Below w.heap.size w w' := by
  by_cases h1 : 1 ≤ n
  · by_cases h2 : n ≤ 4
    · have e : decide (1 ≤ n ∧ n ≤ 4) = true := decide_eq_true ⟨h1, h2⟩
      rw [e]
      clear e
      have g1 : decide (1 ≤ n) = true := decide_eq_true h1
      have g2 : decide (n ≤ 4) = true := decide_eq_true h2
      go_enter Tryz.func42, Tryz.ntmps42
      go_wp2
      go_ret
      exact ⟨rfl, Below.refl _ _⟩
    · have e : decide (1 ≤ n ∧ n ≤ 4) = false := decide_eq_false (fun h => h2 h.2)
      rw [e]
      clear e
      have g1 : decide (1 ≤ n) = true := decide_eq_true h1
      have g2 : decide (n ≤ 4) = false := decide_eq_false h2
      go_enter Tryz.func42, Tryz.ntmps42
      go_wp2
      go_ret
      exact ⟨rfl, Below.refl _ _⟩
  · have e : decide (1 ≤ n ∧ n ≤ 4) = false := decide_eq_false (fun h => h1 h.1)
    rw [e]
    clear e
    have g1 : decide (1 ≤ n) = false := decide_eq_false h1
    go_enter Tryz.func42, Tryz.ntmps42
    go_wp2
    go_ret
    exact ⟨rfl, Below.refl _ _⟩

theorem formL_nil (n : Nat) : FormL n [] (fun _ => 0) :=
  ⟨(fun _ h => by cases h), ⟨fun i k _ hk => absurd hk (by simp), fun i hi => absurd hi (by simp), fun i b hi _ => absurd hi (by simp), fun i hi => absurd hi (by simp), fun i k _ hk => absurd hk (by simp)⟩⟩

theorem matN_nil (w : World) (n : Nat) : MatN w (.slice none 0 0) [] n := ⟨none, 0, rfl, Nat.le_refl _, fun h => absurd h (by simp)⟩

set_option maxRecDepth 100000 in
set_option maxHeartbeats 1600000 in
theorem newL_ok (w : World) (n nv : Nat) (h1 : 1 ≤ n) (h4 : n ≤ 4) :
    Calls Tryz.prog 33 #[.int .i64 (n : Int)] w fun e w' => e = .returned (.tuple #[.agg #[.int .i64 (n : Int), .slice none 0 0], .nilIface]) ∧ LatN w' (.agg #[.int .i64 (n : Int), .slice none 0 0]) n [] nv ∧ Below w.heap.size w w' := by
  have HB0 := hide ((Below.refl w.heap.size w).alloc (Nat.le_refl _) (.cells #[.int .i64 0, .slice none 0 0] 25))
  have HC := hide (box_new w (.int .i64 0) (.slice none 0 0) 25 _ rfl)
  have HSZ : Hid (w.heap.size < (w.alloc (.cells #[.int .i64 0, .slice none 0 0] 25)).heap.size) := by show _ < _; simp
  go_enter Tryz.func33, Tryz.ntmps33
  go_wp2_with fail
  generalize w.alloc (.cells #[.int .i64 0, .slice none 0 0] 25) = W0 at *
  refine (size_any W0 (n : Int)).mono ?_
  rintro e w1 ⟨rfl, hb1⟩
  have e : decide (1 ≤ (n : Int) ∧ (n : Int) ≤ 4) = true := decide_eq_true ⟨by omega, by omega⟩
  rw [e]
  clear e
  have HB1 := hide (HB0.out.trans (hb1.mono HB0.out.size))
  obtain ⟨c0, c1, z0, z1⟩ := HC.out.later hb1 HSZ.out
  have HB2 := hide ((HB1.out.setCell (p := ⟨w.heap.size, 0, none⟩) (by simp) (.int .i64 (n : Int))).setCell (p := ⟨w.heap.size, 1, none⟩) (by simp) (.slice none 0 0))
  clear hb1 HC HSZ HB0 HB1
  go_wp2
  exact bodyPost_ret (v := .tuple #[.agg #[.int .i64 (n : Int), .slice none 0 0], .nilIface]) (by simp [results, Tryz.results33, go_sem, c0, c1]) rfl ⟨rfl, ⟨⟨_, rfl, matN_nil _ _⟩, _, formL_nil _⟩, HB2.out⟩

set_option maxRecDepth 100000 in
set_option maxHeartbeats 1600000 in
theorem checkL_ok (w : World) (v : Value) (n nv : Nat) (hs : List (List Int)) (h : LatN w v n hs nv) (h1 : 1 ≤ n) (h4 : n ≤ 4) :
    Calls Tryz.prog 13 #[v] w fun e w' => e = .returned .nilIface ∧ Below w.heap.size w w' := by
  obtain ⟨⟨u, rfl, hu⟩, p, hF⟩ := h
  have HU := hide hu; have HF := hide hF
  have hlen := hF.short
  obtain ⟨uo, ucap, rfl, -, -⟩ := hu
  clear hF
  have HB0 := hide ((Below.refl w.heap.size w).alloc (Nat.le_refl _) (.cells #[.int .i64 (n : Int), .slice uo hs.length ucap] 25))
  have HC := hide (box_new w (.int .i64 (n : Int)) (.slice uo hs.length ucap) 25 _ rfl)
  have HSZ : Hid (w.heap.size < (w.alloc (.cells #[.int .i64 (n : Int), .slice uo hs.length ucap] 25)).heap.size) := by show _ < _; simp
  go_enter Tryz.func13, Tryz.ntmps13
  go_wp2_with fail
  generalize w.alloc (.cells #[.int .i64 (n : Int), .slice uo hs.length ucap] 25) = W0 at *
  refine (size_any W0 (n : Int)).mono ?_
  rintro e w1 ⟨rfl, hb1⟩
  have e : decide (1 ≤ (n : Int) ∧ (n : Int) ≤ 4) = true := decide_eq_true ⟨by omega, by omega⟩
  rw [e]
  clear e
  have HB1 := hide (HB0.out.trans (hb1.mono HB0.out.size))
  have HD := hide (HC.out.later hb1 HSZ.out)
  have HS1 := hide (Nat.lt_of_lt_of_le HSZ.out hb1.size)
  obtain ⟨c0, c1, z0, z1⟩ := HD.out
  clear hb1 HC HSZ HB0
  go_wp2_with fail
  refine (checkM_ok w1 _ hs n nv (by exact HU.out.below HB1.out (Nat.le_refl _)) h1 (by omega) (by omega) HF.out.len).mono ?_
  rintro e w2 ⟨rfl, hb2⟩
  have HB2 := hide (HB1.out.trans (hb2.mono HB1.out.size))
  obtain ⟨d0, d1, y0, y1⟩ := HD.out.later hb2 HS1.out
  clear hb2 HB1 HD c0 c1 z0 z1
  go_wp2_with fail
  refine (latForm_yes w2 _ hs n nv p (by exact HU.out.below HB2.out (Nat.le_refl _)) HF.out (by omega) (by omega)).mono ?_
  rintro e w3 ⟨rfl, hb3⟩
  have HB3 := hide (HB2.out.trans (hb3.mono HB2.out.size))
  clear hb3 HB2 d0 d1 y0 y1
  go_wp2
  go_ret
  exact ⟨rfl, HB3.out⟩

end Go.Proofs.YtjblidoilphifadGreatDoor

/- A vector is put into a lattice. -/
namespace Go.Proofs.YtjblidoilphifadGreatDoor
open Go.RowKit Limbs

theorem checkV_ok (w : World) (v : Value) (zs : List Int) (nv : Nat) (hv : VecN w v zs nv) (h1 : 1 ≤ zs.length) (h8 : zs.length ≤ 8) :
    Calls Tryz.prog 75 #[v] w fun e w' => e = .returned .nilIface ∧ Below w.heap.size w w' := by
  obtain ⟨rs, hr, hl, ha⟩ := hv.raw
  have e : checkedV rs = .nilIface := by
    unfold checkedV
    rw [if_neg (by omega), ha]; rfl
  have := checkV_any w v rs hr
  rwa [e] at this

set_option maxRecDepth 100000 in
set_option maxHeartbeats 1600000 in
theorem checkWith_ok (w : World) (v x : Value) (n nv nx : Nat) (hs : List (List Int)) (zs : List Int) (h : LatN w v n hs nv) (hx : VecN w x zs nx) (hz : zs.length = n) (h1 : 1 ≤ n) (h4 : n ≤ 4) :
    Calls Tryz.prog 56 #[v, x] w fun e w' => e = .returned .nilIface ∧ Below w.heap.size w w' := by
  subst hz
  have HL := hide h; have HX := hide hx
  obtain ⟨⟨u, rfl, ⟨uo, ucap, rfl, -, -⟩⟩, -⟩ := h
  obtain ⟨xo, xcap, rfl, -, -⟩ := hx
  have HB0 := hide ((Below.refl w.heap.size w).alloc (Nat.le_refl _) (.cells #[.int .i64 (zs.length : Int), .slice uo hs.length ucap] 25))
  have HC := hide (box_new w (.int .i64 (zs.length : Int)) (.slice uo hs.length ucap) 25 _ rfl)
  have HSZ : Hid (w.heap.size < (w.alloc (.cells #[.int .i64 (zs.length : Int), .slice uo hs.length ucap] 25)).heap.size) := by show _ < _; simp
  go_enter Tryz.func56, Tryz.ntmps56
  go_wp2_with fail
  generalize w.alloc (.cells #[.int .i64 (zs.length : Int), .slice uo hs.length ucap] 25) = W0 at *
  refine (checkL_ok W0 _ _ nv hs (by exact HL.out.below HB0.out) h1 h4).mono ?_
  rintro e w1 ⟨rfl, hb1⟩
  have HB1 := hide (HB0.out.trans (hb1.mono HB0.out.size))
  obtain ⟨c0, c1, z0, z1⟩ := HC.out.later hb1 HSZ.out
  clear hb1 HC HSZ HB0
  go_wp2_with fail
  refine (checkV_ok w1 _ zs nx (by exact HX.out.below HB1.out (Nat.le_refl _)) (by omega) (by omega)).mono ?_
  rintro e w2 ⟨rfl, hb2⟩
  have HB2 := hide (HB1.out.trans (hb2.mono HB1.out.size))
  clear hb2 HB1 c0 c1 z0 z1
  go_wp2
  go_ret
  exact ⟨rfl, HB2.out⟩

/-- What Insert answers. -/
def InsPost (w : World) (n nv : Nat) (ms : List (List Int)) (e : Ending) (w' : World) : Prop :=
  ∃ v hs, e = .returned (.tuple #[v, .nilIface]) ∧ LatN w' v n hs (n * nv + 2) ∧ Below w.heap.size w w' ∧ Alikes n (InL hs) (InL ms) ∧ ∀ u, v = .agg #[.int .i64 (n : Int), u] → Fresh w.heap.size u

set_option maxRecDepth 100000 in
set_option maxHeartbeats 1600000 in
theorem insertL_ok (w : World) (v x : Value) (n nv : Nat) (hs : List (List Int)) (zs : List Int) (h : LatN w v n hs nv) (hx : VecN w x zs nv) (hz : zs.length = n) (h1 : 1 ≤ n) (h4 : n ≤ 4) (hN : nbK n (n * nv + 2) nv n ≤ 100000) :
    Calls Tryz.prog 22 #[v, x] w fun e w' => InsPost w n nv (hs ++ [zs]) e w' := by
  subst hz
  have HL := hide h; have HX := hide hx; have HN := hide hN
  obtain ⟨⟨u, rfl, hu⟩, p, hF⟩ := h
  have HU := hide hu
  have hlen := hF.short
  have HR : Hid (∀ us ∈ hs ++ [zs], us.length = zs.length) := fun us hus => by
    rcases List.mem_append.1 hus with hh | hh
    · exact hF.len us hh
    · rw [List.mem_singleton] at hh; rw [hh]
  obtain ⟨uo, ucap, rfl, -, -⟩ := hu
  obtain ⟨xb, xoff, xcap, rfl⟩ := hx.form (by omega)
  clear hF hN hx
  have HB0 := hide (((Below.refl w.heap.size w).alloc (Nat.le_refl _) (.cells #[.int .i64 (zs.length : Int), .slice uo hs.length ucap] 25)).alloc (by simp) (.cells #[.int .i64 0, .slice none 0 0] 25))
  have HC := hide ((box_new w (.int .i64 (zs.length : Int)) (.slice uo hs.length ucap) 25 _ rfl).later ((Below.refl (w.heap.size + 1) _).alloc (by simp) (.cells #[.int .i64 0, .slice none 0 0] 25)) (by omega))
  have HD := hide (box_new (w.alloc (.cells #[.int .i64 (zs.length : Int), .slice uo hs.length ucap] 25)) (.int .i64 0) (.slice none 0 0) 25 (w.heap.size + 1) (by simp))
  have HSZ : Hid (w.heap.size + 1 < ((w.alloc (.cells #[.int .i64 (zs.length : Int), .slice uo hs.length ucap] 25)).alloc (.cells #[.int .i64 0, .slice none 0 0] 25)).heap.size) := by show _ < _; simp
  go_enter Tryz.func22, Tryz.ntmps22
  obtain ⟨c0, c1, z0, z1⟩ := HC.out
  go_wp2_with fail
  clear c0 c1 z0 z1
  generalize ((w.alloc (.cells #[.int .i64 (zs.length : Int), .slice uo hs.length ucap] 25)).alloc (.cells #[.int .i64 0, .slice none 0 0] 25)) = W0 at *
  refine (checkWith_ok W0 _ _ _ nv nv hs zs (by exact HL.out.below HB0.out) (by exact HX.out.below HB0.out (Nat.le_refl _)) rfl h1 h4).mono ?_
  rintro e w1 ⟨rfl, hb1⟩
  have HB1 := hide (HB0.out.trans (hb1.mono HB0.out.size))
  obtain ⟨c0, c1, z0, z1⟩ := HC.out.later hb1 (by have := HSZ.out; omega)
  have HE := hide (HD.out.later hb1 HSZ.out)
  have HS1 := hide (Nat.lt_of_lt_of_le HSZ.out hb1.size)
  clear hb1 HC HD HSZ HB0
  have HBA := hide (((Below.refl w1.heap.size w1).alloc (Nat.le_refl _) (.cells #[.slice (some ⟨xb, xoff, none⟩) zs.length xcap] 27)).alloc (by simp) (.cells #[.slice uo hs.length ucap, .slice (some ⟨w1.heap.size, 0, none⟩) 1 1] 23))
  have HT : Hid (TwoM ((w1.alloc (.cells #[.slice (some ⟨xb, xoff, none⟩) zs.length xcap] 27)).alloc (.cells #[.slice uo hs.length ucap, .slice (some ⟨w1.heap.size, 0, none⟩) 1 1] 23)) (w1.heap.size + 1) (.slice uo hs.length ucap) (.slice (some ⟨w1.heap.size, 0, none⟩) 1 1) hs [zs] nv) := by
    have hb := HBA.out
    have e1 : w1.heap.size + 1 = (w1.alloc (.cells #[.slice (some ⟨xb, xoff, none⟩) zs.length xcap] 27)).heap.size := by simp
    have hbx := (Below.refl (w1.heap.size + 1) (w1.alloc (.cells #[.slice (some ⟨xb, xoff, none⟩) zs.length xcap] 27))).alloc (by simp) (.cells #[.slice uo hs.length ucap, .slice (some ⟨w1.heap.size, 0, none⟩) 1 1] 23)
    refine ⟨by simp, ?_, ?_, (HU.out.below HB1.out (Nat.le_refl _)).below hb (Nat.le_refl _), ⟨_, 1, rfl, Nat.le_refl _, fun _ => ⟨w1.heap.size, 0, rfl, (by simp; omega), fun i us hi => ?_⟩⟩⟩
    · rw [e1, World.cell?_alloc_new]; rfl
    · rw [e1, World.cell?_alloc_new]; rfl
    · have hi0 : i = 0 := by have := (List.getElem?_eq_some_iff.1 hi).1; simpa using this
      subst hi0
      have : us = zs := by simpa using hi.symm
      subst this
      exact ⟨_, (hbx.cell (p := ⟨w1.heap.size, 0, none⟩) (by simp)).trans (by rw [World.cell?_alloc_new]; rfl), (HX.out.below HB1.out (Nat.le_refl _)).below hb (Nat.le_refl _)⟩
  have HB2 := hide (HB1.out.trans (HBA.out.mono HB1.out.size))
  have HE2 := hide (HE.out.later HBA.out HS1.out)
  have HS2 := hide (Nat.lt_of_lt_of_le HS1.out HBA.out.size)
  clear HE HS1 HBA HU HX HL HB1
  go_wp2_with fail
  generalize ((w1.alloc (.cells #[.slice (some ⟨xb, xoff, none⟩) zs.length xcap] 27)).alloc (.cells #[.slice uo hs.length ucap, .slice (some ⟨w1.heap.size, 0, none⟩) 1 1] 23)) = W2 at *
  refine (generated_two W2 _ _ _ hs [zs] zs.length nv (by exact HT.out) (by simp; omega) h1 (by omega) HR.out HN.out).mono ?_
  rintro e w3 ⟨u', hs', p', rfl, hu', hb3, hF', hA', hfr⟩
  have hpos : ∀ us ∈ hs', 0 < us.length := fun us hz => by rw [hF'.len us hz]; omega
  have HB3 := hide (HB2.out.trans (hb3.mono HB2.out.size))
  obtain ⟨d0, d1, y0, y1⟩ := HE2.out.later hb3 HS2.out
  have HP : Hid (InsPost w zs.length nv (hs ++ [zs]) (.returned (.tuple #[.agg #[.int .i64 (zs.length : Int), u'], .nilIface])) ((w3.setCell ⟨w.heap.size + 1, 0, none⟩ (.int .i64 (zs.length : Int))).setCell ⟨w.heap.size + 1, 1, none⟩ u')) := ⟨_, hs', rfl, ⟨⟨u', rfl, hu'.setBasis _ _ hpos d0 d1⟩, p', hF'⟩, (HB3.out.setCell (by simp) _).setCell (by simp) _, hA', fun x hx => by simp at hx; rw [← hx]; exact hfr.mono HB2.out.size⟩
  obtain ⟨vo, vcap, rfl, -, -⟩ := hu'
  clear hF' hA' hfr hpos hb3 HT HR HN HB2 HB3 HE2 HS2 c0 c1 z0 z1
  go_wp2
  exact bodyPost_ret (v := .tuple #[.agg #[.int .i64 (zs.length : Int), .slice vo hs'.length vcap], .nilIface]) (by simp [results, Tryz.results22, go_sem, d0, d1]) rfl HP.out

end Go.Proofs.YtjblidoilphifadGreatDoor

/- Plain arithmetic of the reference's digits: numbers to the base 10000, the lowest first. No Go in it. -/
namespace Go.Proofs.YtjblidoilphifadGreatDoor.Digs
open Limbs

def dv : List Int → Int
  | [] => 0
  | x :: xs => x + 10000 * dv xs

def DB (zs : List Int) : Prop := ∀ i : Nat, 0 ≤ zs.getD i 0 ∧ zs.getD i 0 < 10000

/-- a power of the base -/
def dp : Nat → Int
  | 0 => 1
  | n + 1 => 10000 * dp n

theorem dp_pos (n : Nat) : 0 < dp n := by
  induction n with
  | zero => simp [dp]
  | succ n ih => simp only [dp]; omega

theorem dp_add (m n : Nat) : dp (m + n) = dp m * dp n := by
  induction m with
  | zero => simp [dp]
  | succ m ih => rw [Nat.succ_add]; simp only [dp]; rw [ih, Int.mul_assoc]

theorem dp_mono {m n : Nat} (h : m ≤ n) : dp m ≤ dp n := by
  obtain ⟨k, rfl⟩ := Nat.exists_eq_add_of_le h
  rw [dp_add]
  have h1 := dp_pos m
  have h2 := dp_pos k
  have : dp m * 1 ≤ dp m * dp k := Int.mul_le_mul_of_nonneg_left (by omega) (by omega)
  omega

theorem DB_nil : DB [] := by intro i; simp
theorem DB_tail {x : Int} {xs : List Int} (h : DB (x :: xs)) : DB xs := fun i => by simpa using h (i + 1)
theorem DB_head {x : Int} {xs : List Int} (h : DB (x :: xs)) : 0 ≤ x ∧ x < 10000 := by simpa using h 0
theorem DB_cons {x : Int} {xs : List Int} (hx : 0 ≤ x ∧ x < 10000) (h : DB xs) : DB (x :: xs) := by
  intro i
  cases i with
  | zero => simpa using hx
  | succ i => simpa using h i

theorem DB_mem {zs : List Int} (h : ∀ z ∈ zs, 0 ≤ z ∧ z < 10000) : DB zs := by
  induction zs with
  | nil => exact DB_nil
  | cons x xs ih => exact DB_cons (h x (by simp)) (ih fun z hz => h z (by simp [hz]))

theorem DB_take {zs : List Int} (h : DB zs) (k : Nat) : DB (zs.take k) := by
  intro i
  have := h i
  by_cases hk : i < k
  · simpa [List.getD_eq_getElem?_getD, List.getElem?_take, hk] using this
  · simp [List.getD_eq_getElem?_getD, List.getElem?_take, hk]

theorem DB_drop {zs : List Int} (h : DB zs) (k : Nat) : DB (zs.drop k) := by
  intro i
  have := h (k + i)
  simpa [List.getD_eq_getElem?_getD, List.getElem?_drop] using this

theorem dv_nonneg {zs : List Int} (h : DB zs) : 0 ≤ dv zs := by
  induction zs with
  | nil => simp [dv]
  | cons x xs ih => have := ih (DB_tail h); have := DB_head h; simp only [dv]; omega

theorem dv_lt {zs : List Int} (h : DB zs) : dv zs < dp zs.length := by
  induction zs with
  | nil => simp [dv, dp]
  | cons x xs ih => have := ih (DB_tail h); have := DB_head h; simp only [dv, List.length_cons, dp]; omega

theorem dv_append (xs ys : List Int) : dv (xs ++ ys) = dv xs + dp xs.length * dv ys := by
  induction xs with
  | nil => simp [dv, dp]
  | cons x xs ih => simp only [List.cons_append, dv, ih, List.length_cons, dp]; rw [Int.mul_add, Int.mul_assoc]; omega

theorem dv_take_succ (zs : List Int) (k : Nat) : dv (zs.take (k + 1)) = dv (zs.take k) + dp k * zs.getD k 0 := by
  by_cases h : k < zs.length
  · rw [List.take_succ_eq_append_getElem h, dv_append]
    simp [dv, List.length_take, Nat.min_eq_left (Nat.le_of_lt h), List.getD_eq_getElem?_getD, h]
  · rw [List.take_of_length_le (by omega), List.take_of_length_le (by omega)]
    simp [List.getD_eq_getElem?_getD, List.getElem?_eq_none (Nat.le_of_not_lt h)]

theorem dv_split (zs : List Int) (k : Nat) (h : k ≤ zs.length) : dv zs = dv (zs.take k) + dp k * dv (zs.drop k) := by
  have := dv_append (zs.take k) (zs.drop k)
  rw [List.take_append_drop, List.length_take, Nat.min_eq_left h] at this
  exact this

theorem dv_take_ge (zs : List Int) {k : Nat} (h : zs.length ≤ k) : dv (zs.take k) = dv zs := by
  rw [List.take_of_length_le h]

theorem dv_take_lt {zs : List Int} (h : DB zs) (k : Nat) : dv (zs.take k) < dp k := by
  have h1 := dv_lt (DB_take h k)
  have h2 : dp (zs.take k).length ≤ dp k := dp_mono (List.length_take_le k zs)
  omega

theorem dv_take_nonneg {zs : List Int} (h : DB zs) (k : Nat) : 0 ≤ dv (zs.take k) := dv_nonneg (DB_take h k)

/-- Numbers of as many limbs, alike from a place on, there another: that place tells. -/
theorem dv_lt_of_place {a b : List Int} (ha : DB a) (hb : DB b) (hl : a.length = b.length) {k : Nat} (hk : k < a.length) (hd : a.drop (k + 1) = b.drop (k + 1)) (hx : a.getD k 0 < b.getD k 0) : dv a < dv b := by
  have e1 := dv_split a k (by omega)
  have e2 := dv_split b k (by omega)
  rw [drop_cons_getD a k hk] at e1
  rw [drop_cons_getD b k (by omega), ← hd] at e2
  simp only [dv] at e1 e2
  have h1 := dv_take_lt ha k
  have h2 := dv_take_nonneg hb k
  generalize dv (a.drop (k + 1)) = t at e1 e2
  have hp := dp_pos k
  have h3 : dp k * (a.getD k 0 + 10000 * t + 1) ≤ dp k * (b.getD k 0 + 10000 * t) := Int.mul_le_mul_of_nonneg_left (by omega) (by omega)
  rw [Int.mul_add, Int.mul_one] at h3
  omega

theorem nrm_low10 {zs : List Int} (h : DB zs) (hn : Nrm zs) (h0 : 0 < zs.length) : dp (zs.length - 1) ≤ dv zs := by
  have e := dv_split zs (zs.length - 1) (by omega)
  rw [drop_cons_getD zs (zs.length - 1) (by omega)] at e
  have hd : zs.drop (zs.length - 1 + 1) = [] := List.drop_eq_nil_of_le (by omega)
  rw [hd] at e
  simp only [dv] at e
  have h1 := dv_take_nonneg h (zs.length - 1)
  have h2 := h (zs.length - 1)
  have h3 : zs.getD (zs.length - 1) 0 ≠ 0 := by rcases hn with hn | hn; omega; exact hn
  have hp := dp_pos (zs.length - 1)
  have h4 : dp (zs.length - 1) * 1 ≤ dp (zs.length - 1) * (zs.getD (zs.length - 1) 0 + 10000 * 0) := Int.mul_le_mul_of_nonneg_left (by omega) (by omega)
  omega

theorem dv_lt_of_length {a b : List Int} (ha : DB a) (hb : DB b) (hn : Nrm b) (hl : a.length < b.length) : dv a < dv b := by
  have h1 := dv_lt ha
  have h2 := nrm_low10 hb hn (by omega)
  have h3 : dp a.length ≤ dp (b.length - 1) := dp_mono (by omega)
  omega

theorem dv_zero_iff {zs : List Int} (h : DB zs) (hn : Nrm zs) : dv zs = 0 ↔ zs.length = 0 := by
  constructor
  · intro h0
    by_cases hl : zs.length = 0
    · exact hl
    · have h1 := nrm_low10 h hn (by omega)
      have := dp_pos (zs.length - 1)
      omega
  · intro hl
    rw [List.eq_nil_of_length_eq_zero hl]; rfl

/-- how long: a bound on the number is one on its limbs -/
theorem len10_le_of_lt {zs : List Int} (h : DB zs) (hn : Nrm zs) {n : Nat} (hlt : dv zs < dp n) : zs.length ≤ n := by
  by_cases hl : zs.length ≤ n
  · exact hl
  · have h1 := nrm_low10 h hn (by omega)
    have h2 : dp n ≤ dp (zs.length - 1) := dp_mono (by omega)
    omega

/-- without noughts behind there is one list for each number -/
theorem dv_inj {a b : List Int} (ha : DB a) (hb : DB b) (na : Nrm a) (nb : Nrm b) (h : dv a = dv b) : a = b := by
  have hl : a.length = b.length := by
    by_cases h1 : a.length < b.length
    · have := dv_lt_of_length ha hb nb h1; omega
    · by_cases h2 : b.length < a.length
      · have := dv_lt_of_length hb ha na h2; omega
      · omega
  clear na nb
  induction a generalizing b with
  | nil => exact (List.eq_nil_of_length_eq_zero hl.symm).symm
  | cons x xs ih =>
    match b, hl with
    | y :: ys, hl =>
      simp only [dv] at h
      have h1 := DB_head ha
      have h2 := DB_head hb
      have e : x = y := by omega
      rw [e, ih (DB_tail ha) (DB_tail hb) (by omega) (by simpa using hl)]

theorem DB_set {zs : List Int} (h : DB zs) (k : Nat) {z : Int} (hz : 0 ≤ z ∧ z < 10000) : DB (zs.set k z) := by
  intro i
  rw [List.getD_eq_getElem?_getD, List.getElem?_set]
  by_cases hk : k = i
  · subst hk
    by_cases hl : k < zs.length <;> simp [hl, hz]
  · have := h i
    simpa [hk, List.getD_eq_getElem?_getD] using this

theorem dv_set (zs : List Int) (k : Nat) (z : Int) (h : k < zs.length) : dv (zs.set k z) = dv zs + dp k * (z - zs.getD k 0) := by
  induction zs generalizing k with
  | nil => simp at h
  | cons x xs ih =>
    cases k with
    | zero => simp [dv, dp]; omega
    | succ k =>
      have := ih k (by simpa using h)
      simp only [List.set_cons_succ, dv, this, dp, List.getD_cons_succ]
      rw [Int.mul_add, Int.mul_assoc]; omega

theorem dv_replicate (n : Nat) : dv (List.replicate n 0) = 0 := by
  induction n with
  | zero => rfl
  | succ n ih => simp only [List.replicate_succ, dv, ih]; rfl

theorem DB_replicate (n : Nat) : DB (List.replicate n 0) := DB_mem fun z hz => by
  rw [List.eq_of_mem_replicate hz]; decide

end Go.Proofs.YtjblidoilphifadGreatDoor.Digs

/- The reference's numbers: digits to the base 10000 in memory; noughts behind are taken off. -/
namespace Go.Proofs.YtjblidoilphifadGreatDoor
open Go.RowKit Limbs Digs

/-- A slice value that holds these digits in this world; its block is one of integers. -/
def Dig (w : World) (v : Value) (ds : List Int) : Prop :=
  ∃ ao cap, v = .slice ao ds.length cap ∧ ds.length ≤ cap ∧ ds.length ≤ 1000000000000 ∧ DB ds ∧
    (0 < ds.length → ∃ b off cur fz, ao = some ⟨b, off, none⟩ ∧ w.heap[b]? = some (.cells cur 3 fz) ∧ ∀ i, i < ds.length → w.cell? ⟨b, off + i, none⟩ = some (.int .i64 (ds.getD i 0)))

theorem Dig.below {B : Nat} {w w' : World} {v : Value} {ds : List Int} (h : Dig w v ds) (hb : Below B w w') (hB : w.heap.size ≤ B) : Dig w' v ds := by
  obtain ⟨ao, cap, hv, h1, h2, h3, h4⟩ := h
  refine ⟨ao, cap, hv, h1, h2, h3, fun h0 => ?_⟩
  obtain ⟨b, off, cur, fz, e, hlt, hc⟩ := h4 h0
  have hl := heap_lt hlt
  exact ⟨b, off, cur, fz, e, (hb.block b (by omega)).trans hlt, fun i hi => (hb.cell (p := ⟨b, off + i, none⟩) (Nat.lt_of_lt_of_le hl hB)).trans (hc i hi)⟩

theorem Dig.nil (w : World) : Dig w (.slice none 0 0) [] := ⟨none, 0, rfl, Nat.le_refl _, by simp, DB_nil, fun h => absurd h (by simp)⟩

theorem Dig.take {w : World} {ao : Option Addr} {cap : Nat} {ds : List Int} (h : Dig w (.slice ao ds.length cap) ds) (n : Nat) (hn : n ≤ ds.length) : Dig w (.slice ao n n) (ds.take n) := by
  obtain ⟨ao', cap', hv, h1, h2, h3, h4⟩ := h
  simp only [Value.slice.injEq, true_and] at hv
  obtain ⟨rfl, rfl⟩ := hv
  have hl : (ds.take n).length = n := by rw [List.length_take]; omega
  refine ⟨ao, n, by rw [hl], by omega, by omega, DB_take h3 n, fun h0 => ?_⟩
  obtain ⟨b, off, cur, fz, e, hlt, hc⟩ := h4 (by omega)
  refine ⟨b, off, cur, fz, e, hlt, fun i hi => ?_⟩
  rw [hc i (by omega), getD_take ds n i (by omega)]

theorem Dig.owns {w : World} {base n : Nat} {v : Value} {ds : List Int} (h : w.ownsRow base 3 1 v n (ds.map (Value.int .i64))) (hd : DB ds) (hl : ds.length ≤ 1000000000000) : Dig w v ds := by
  have hn : n = ds.length := by have := h.1; rw [List.length_map] at this; omega
  subst hn
  rcases h.2 with ⟨rfl, h0⟩ | ⟨g, cap, cur, rfl, hb, hg, hc, hm, hs, ht⟩
  · have : ds = [] := List.eq_nil_of_length_eq_zero h0
    subst this
    exact Dig.nil w
  · refine ⟨_, cap, rfl, hc, hl, hd, fun h0 => ⟨g, 0, cur, (0, 0), rfl, hg, fun i hi => ?_⟩⟩
    have := h.cellAt i (by omega)
    rw [Nat.zero_add, this]
    simp [List.getD_eq_getElem?_getD, hi]

/-- A number of the reference: its sign, its digits; so many at most. -/
def NumR (w : World) (v : Value) (z : Int) (n : Nat) : Prop :=
  ∃ (s : Int) (sl : Value) (ds : List Int), v = .agg #[.int .i64 s, sl] ∧ Dig w sl ds ∧ Nrm ds ∧ z = s * dv ds ∧ ((ds.length = 0 ∧ s = 0 ∧ sl = .slice none 0 0) ∨ (0 < ds.length ∧ (s = 1 ∨ s = -1))) ∧ ds.length ≤ n

theorem NumR.below {B : Nat} {w w' : World} {v : Value} {z : Int} {n : Nat} (h : NumR w v z n) (hb : Below B w w') (hB : w.heap.size ≤ B) : NumR w' v z n := by
  obtain ⟨s, sl, ds, h1, h2, h3⟩ := h
  exact ⟨s, sl, ds, h1, h2.below hb hB, h3⟩

theorem NumR.mono {w : World} {v : Value} {z : Int} {n m : Nat} (h : NumR w v z n) (hm : n ≤ m) : NumR w v z m := by
  obtain ⟨s, sl, ds, h1, h2, h3, h4, h5, h6⟩ := h
  exact ⟨s, sl, ds, h1, h2, h3, h4, h5, by omega⟩

theorem NumR.zero (w : World) (n : Nat) : NumR w (.agg #[.int .i64 0, .slice none 0 0]) 0 n :=
  ⟨0, _, [], rfl, Dig.nil w, .inl rfl, by simp, .inl ⟨rfl, rfl, rfl⟩, by simp⟩

/-- A number comes back, in old memory or in new. -/
def RefPost (w : World) (z : Int) (n : Nat) (e : Ending) (w' : World) : Prop :=
  ∃ v, e = .returned v ∧ NumR w' v z n ∧ Below w.heap.size w w'

theorem dv_take_pred {ds : List Int} {n : Nat} (h0 : 0 < n) (h : ds.getD (n - 1) 0 = 0) : dv (ds.take (n - 1)) = dv (ds.take n) := by
  have := dv_take_succ ds (n - 1)
  rw [show n - 1 + 1 = n by omega, h] at this
  omega

theorem dv_pos {ds : List Int} (h : DB ds) (hn : Nrm ds) (h0 : ds.length ≠ 0) : 0 < dv ds := by
  have h1 := dv_nonneg h
  have h2 := dv_zero_iff h hn
  rcases (by omega : dv ds = 0 ∨ 0 < dv ds) with e | e
  · exact absurd (h2.1 e) h0
  · exact e

set_option maxRecDepth 100000 in
set_option maxHeartbeats 800000 in
theorem cutNum_any (w : World) (s : Int) (v : Value) (ds : List Int) (h : Dig w v ds) (hs : s = 1 ∨ s = -1 ∨ dv ds = 0) :
    Calls Tryz.prog 94 #[.int .i64 s, v] w fun e w' => RefPost w (s * dv ds) ds.length e w' := by
  have HD := hide h
  have HS := hide hs
  obtain ⟨ao, cap, rfl, hcap, hlen, hdb, hc⟩ := h
  have hW : Below w.heap.size w (w.alloc (.cells #[.int .i64 0, .slice none 0 0] 64)) := (Below.refl _ _).alloc (Nat.le_refl _) _
  have HW := hide hW
  have hc' : 0 < ds.length → ∃ b off, ao = some ⟨b, off, none⟩ ∧ ∀ i, i < ds.length → (w.alloc (.cells #[.int .i64 0, .slice none 0 0] 64)).cell? ⟨b, off + i, none⟩ = some (.int .i64 (ds.getD i 0)) := fun h0 => by
    obtain ⟨b, off, cur, fz, e, hlt, hc⟩ := hc h0
    have hl := heap_lt hlt
    exact ⟨b, off, e, fun i hi => (hW.cell (p := ⟨b, off + i, none⟩) hl).trans (hc i hi)⟩
  clear hc hs hW
  go_enter Tryz.func94, Tryz.ntmps94
  go_wp2
  go_loop [5] (fun t => ∃ n : Nat, n ≤ ds.length ∧ t = .int .i64 n ∧ Hid (dv (ds.take n) = dv ds)) (fun t => (intOf t).toNat)
  case atStart => exact ⟨ds.length, Nat.le_refl _, rfl, by show dv _ = _; rw [List.take_length]⟩
  case round =>
    obtain ⟨n, hn, rfl, HV⟩ := hrel
    by_cases h0 : n = 0
    · subst h0
      have HF : Hid (RefPost w (s * dv ds) ds.length (.returned (.agg #[.int .i64 0, .slice none 0 0])) (w.alloc (.cells #[.int .i64 0, .slice none 0 0] 64))) := by
        refine ⟨_, rfl, ?_, HW.out⟩
        have e : s * dv ds = 0 := by rw [← HV.out]; simp [dv]
        rw [e]
        exact NumR.zero _ _
      clear HV
      go_wp2
      exact bodyPost_ret (v := .agg #[.int .i64 0, .slice none 0 0]) (by simp [results, Tryz.results94, go_sem]) rfl HF.out
    · obtain ⟨b, off, rfl, hc⟩ := hc' (by omega)
      obtain ⟨m, rfl⟩ : ∃ m, n = m + 1 := ⟨n - 1, by omega⟩
      have hcm := hc m (by omega)
      clear hc
      have HG : Hid (ds.getD (m + 1 - 1) 0 = ds.getD m 0) := by show _ = _; rw [Nat.add_sub_cancel]
      have hzb := hdb m
      generalize hz : ds.getD m 0 = z at *
      by_cases hz0 : z = 0
      · subst hz0
        go_wp2
        go_round
        case rel => exact ⟨m, by omega, by go_num, by have := dv_take_pred (ds := ds) (n := m + 1) (by omega) HG.out; rw [Nat.add_sub_cancel] at this; exact this.trans HV.out⟩
        case measure => simp [intOf]
      · have hz1 : (z == 0) = false := by simp [hz0]
        have HF : Hid (RefPost w (s * dv ds) ds.length (.returned (.agg #[.int .i64 s, .slice (some ⟨b, off, none⟩) (m + 1) (m + 1)])) (w.alloc (.cells #[.int .i64 s, .slice (some ⟨b, off, none⟩) (m + 1) (m + 1)] 64))) := by
          refine ⟨_, rfl, ⟨s, _, ds.take (m + 1), rfl, (HD.out.take (m + 1) hn).below ((Below.refl _ _).alloc (Nat.le_refl _) _) (Nat.le_refl _), nrm_take hn (.inr (by rw [HG.out]; exact hz0)), by rw [HV.out], .inr ⟨by rw [List.length_take]; omega, ?_⟩, by rw [List.length_take]; omega⟩, (Below.refl _ _).alloc (Nat.le_refl _) _⟩
          rcases HS.out with h | h | h
          · exact .inl h
          · exact .inr h
          · exfalso
            have hp := dv_pos (DB_take hdb (m + 1)) (nrm_take hn (.inr (by rw [HG.out]; exact hz0))) (by rw [List.length_take]; omega)
            rw [HV.out] at hp
            omega
        clear HV HS HD HG
        go_wp2
        exact bodyPost_ret (v := .agg #[.int .i64 s, .slice (some ⟨b, off, none⟩) (m + 1) (m + 1)]) (by simp [results, Tryz.results94, go_sem]) rfl HF.out

end Go.Proofs.YtjblidoilphifadGreatDoor
