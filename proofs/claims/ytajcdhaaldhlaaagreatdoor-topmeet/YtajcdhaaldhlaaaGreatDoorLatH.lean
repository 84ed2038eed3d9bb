/- What rows generate together; new lattices. -/
import Derived.Test.YtajcdhaaldhlaaaGreatDoorLatD
import Derived.Test.YtajcdhaaldhlaaaGreatDoorSwap
import Derived.Test.YtajcdhaaldhlaaaGreatDoorVecW
import Derived.Test.YtajcdhaaldhlaaaGreatDoorShift
import Derived.Test.YtajcdhaaldhlaaaGreatDoorMats

namespace Go.Proofs.YtajcdhaaldhlaaaGreatDoor
open Go.RowKit Limbs

def GenPost (w : World) (n nv : Nat) (ms : List (List Int)) (e : Ending) (w' : World) : Prop :=
 ∃ u hs p, e = .returned (.agg #[.int .i64 (n : Int), u]) ∧ MatN w' u hs (n * nv + 2) ∧ Below w.heap.size w w' ∧ FormL n hs p ∧ Alikes n (InL hs) (InL ms) ∧ Fresh w.heap.size u

theorem MatN.setBasis {W : World} {B : Nat} {u : Value} {hs : List (List Int)} {nv : Nat} {x : Int} (y z : Value) (h : MatN W u hs nv) (hpos : ∀ zs ∈ hs, 0 < zs.length) (c0 : W.cell? ⟨B, 0, none⟩ = some (.int .i64 x)) (c1 : W.cell? ⟨B, 1, none⟩ = some (.slice none 0 0)) :
  MatN ((W.setCell ⟨B, 0, none⟩ y).setCell ⟨B, 1, none⟩ z) u hs nv := by
 have k1 : (W.setCell ⟨B, 0, none⟩ y).cell? ⟨B, 1, none⟩ = some (.slice none 0 0) := Eq.trans (World.cell?_setCell_other (h := fun e => by simp at e) ..) c1
 have stay : ∀ (b o : Nat) (v : Value), W.cell? ⟨b, o, none⟩ = some v → ¬ (b = B ∧ o = 0) → ¬ (b = B ∧ o = 1) → ((W.setCell ⟨B, 0, none⟩ y).setCell ⟨B, 1, none⟩ z).cell? ⟨b, o, none⟩ = some v := fun b o v hv h0 h1 =>
  Eq.trans (World.cell?_setCell_other (h := fun e => h1 (by simp only [Addr.mk.injEq, and_true] at e; exact ⟨e.1.symm, e.2.symm⟩)) ..) (Eq.trans (World.cell?_setCell_other (h := fun e => h0 (by simp only [Addr.mk.injEq, and_true] at e; exact ⟨e.1.symm, e.2.symm⟩)) ..) hv)
 have hsz : ((W.setCell ⟨B, 0, none⟩ y).setCell ⟨B, 1, none⟩ z).heap.size = W.heap.size := by simp
 obtain ⟨ao, cap, hv, h1, h2⟩ := h
 refine ⟨ao, cap, hv, h1, fun hh => ?_⟩
 obtain ⟨b, off, e, hlt, hc⟩ := h2 hh
 refine ⟨b, off, e, by rw [hsz]; exact hlt, fun i zs hi => ?_⟩
 obtain ⟨v, cv, hv⟩ := hc i zs hi
 have hzs := hpos zs (List.mem_of_getElem? hi)
 obtain ⟨vb, voff, vcap, rfl⟩ := hv.form hzs
 refine ⟨_, stay _ _ _ cv (fun ⟨e1, e2⟩ => ?_) (fun ⟨e1, e2⟩ => ?_), ?_⟩
 ·rw [e1, e2, c0] at cv; cases cv
 ·rw [e1, e2, c1] at cv; cases cv
 ·have hat := fun j (hj : j < zs.length) => hv.at j hj
  obtain ⟨_, _, ev, g1, -⟩ := hv
  refine ⟨_, _, ev, g1, fun _ => ⟨vb, voff, ?_, by rw [hsz]; exact (hat 0 hzs).1, fun j hj => ?_⟩⟩
  ·simp only [Value.slice.injEq, true_and] at ev
   exact ev.1.symm
  ·obtain ⟨-, neg, o, l, c, d0, d1, hn⟩ := hat j hj
   refine ⟨neg, o, l, c, stay _ _ _ d0 (fun ⟨e1, e2⟩ => ?_) (fun ⟨e1, e2⟩ => ?_), stay _ _ _ d1 (fun ⟨e1, e2⟩ => ?_) (fun ⟨e1, e2⟩ => ?_), (hn.setCell c0 (by simp)).setCell k1 (by simp)⟩
   ·rw [e1, e2, c0] at d0; cases d0
   ·rw [e1, e2, c1] at d0; cases d0
   ·rw [e1, e2, c0] at d1; cases d1
   ·have e3 : voff + j * 2 = 0 := by omega
    rw [e1, e3, c0] at d0; cases d0

set_option maxRecDepth 100000 in
set_option maxHeartbeats 1600000 in
theorem generated_two (w : World) (rb : Nat) (va vb : Value) (xs ys : List (List Int)) (n nv : Nat) (h : TwoM w rb va vb xs ys nv) (hl : xs.length + ys.length ≤ 12) (hn1 : 1 ≤ n) (hn : n ≤ 8) (hr : ∀ us ∈ xs ++ ys, us.length = n) (hN : nbK n (n * nv + 2) nv n ≤ 100000) :
  Calls Tryz.prog 33 #[.int .i64 (n : Int), .slice (some ⟨rb, 0, none⟩) 2 2] w fun e w' => GenPost w n nv (xs ++ ys) e w' := by
 have HT := hide h
 have HR := hide hr; have HN := hide hN
 have HB0 := hide ((Below.refl w.heap.size w).alloc (Nat.le_refl _) (.cells #[.int .i64 0, .slice none 0 0] 30))
 have HC := hide (box_new w (.int .i64 0) (.slice none 0 0) 30 _ rfl)
 have HSZ : Hid (w.heap.size < (w.alloc (.cells #[.int .i64 0, .slice none 0 0] 30)).heap.size) := by show _ < _; simp
 clear h hr hN
 go_enter Tryz.func33, Tryz.ntmps33
 go_wp2_with fail
 generalize w.alloc (.cells #[.int .i64 0, .slice none 0 0] 30) = W0 at *
 refine (concat_two W0 rb va vb xs ys nv (HT.out.below HB0.out) (by omega)).mono ?_
 rintro e w1 ⟨v, rfl, hv, hb1⟩
 have HV := hide hv
 have HB1 := hide (HB0.out.trans (hb1.mono HB0.out.size))
 have HD := hide (HC.out.later hb1 HSZ.out)
 have HS1 := hide (Nat.lt_of_lt_of_le HSZ.out hb1.size)
 clear hv hb1 HC HSZ HB0
 go_wp2_with fail
 refine (hermite_new w1 v (xs ++ ys) n nv HV.out HR.out hn1 hn (by rw [List.length_append]; exact hl) HN.out).mono ?_
 rintro e w2 ⟨u, hs, p, rfl, hu, hlen, hb2, hF, hA, hfr⟩
 have hpos : ∀ zs ∈ hs, 0 < zs.length := fun zs hz => by rw [hF.len zs hz]; omega
 obtain ⟨c0, c1, z0, z1⟩ := HD.out.later hb2 HS1.out
 have HB2 := hide (HB1.out.trans (hb2.mono HB1.out.size))
 have HP : Hid (GenPost w n nv (xs ++ ys) (.returned (.agg #[.int .i64 (n : Int), u])) ((w2.setCell ⟨w.heap.size, 0, none⟩ (.int .i64 (n : Int))).setCell ⟨w.heap.size, 1, none⟩ u)) := ⟨u, hs, p, rfl, hu.setBasis _ _ hpos c0 c1, (HB2.out.setCell (by simp) _).setCell (by simp) _, hF, hA, hfr.mono HB1.out.size⟩
 obtain ⟨uo, ucap, rfl, -, -⟩ := hu
 clear hF hA hfr hpos hb2 HB1 HD HV HT HR HN
 go_wp2
 exact bodyPost_ret (v := .agg #[.int .i64 (n : Int), .slice uo hs.length ucap]) (by simp [results, Tryz.results33, go_sem, c0, c1]) rfl HP.out

end Go.Proofs.YtajcdhaaldhlaaaGreatDoor

/- Lattices: sizes, new ones, the checks of those that are. -/
namespace Go.Proofs.YtajcdhaaldhlaaaGreatDoor
open Go.RowKit Limbs

def LatN (w : World) (v : Value) (n : Nat) (hs : List (List Int)) (nv : Nat) : Prop := (∃ u, v = .agg #[.int .i64 (n : Int), u] ∧ MatN w u hs nv) ∧ ∃ p, FormL n hs p

theorem LatN.below {w w' : World} {v : Value} {n : Nat} {hs : List (List Int)} {nv : Nat} (h : LatN w v n hs nv) (hb : Below w.heap.size w w') : LatN w' v n hs nv := by
 obtain ⟨⟨u, e, hu⟩, hp⟩ := h
 exact ⟨⟨u, e, hu.below hb (Nat.le_refl _)⟩, hp⟩

set_option maxRecDepth 100000 in
theorem size_any (w : World) (n : Int) : Calls Tryz.prog 53 #[.int .i64 n] w fun e w' => e = .returned (.bool (decide (1 ≤ n ∧ n ≤ 4))) ∧ Below w.heap.size w w' := by
 by_cases h1 : 1 ≤ n
 ·by_cases h2 : n ≤ 4
  ·have e : decide (1 ≤ n ∧ n ≤ 4) = true := decide_eq_true ⟨h1, h2⟩
   rw [e]
   clear e
   have g1 : decide (1 ≤ n) = true := decide_eq_true h1
   have g2 : decide (n ≤ 4) = true := decide_eq_true h2
   go_enter Tryz.func53, Tryz.ntmps53
   go_wp2
   go_ret
   exact ⟨rfl, Below.refl _ _⟩
  ·have e : decide (1 ≤ n ∧ n ≤ 4) = false := decide_eq_false (fun h => h2 h.2)
   rw [e]
   clear e
   have g1 : decide (1 ≤ n) = true := decide_eq_true h1
   have g2 : decide (n ≤ 4) = false := decide_eq_false h2
   go_enter Tryz.func53, Tryz.ntmps53
   go_wp2
   go_ret
   exact ⟨rfl, Below.refl _ _⟩
 ·have e : decide (1 ≤ n ∧ n ≤ 4) = false := decide_eq_false (fun h => h1 h.1)
  rw [e]
  clear e
  have g1 : decide (1 ≤ n) = false := decide_eq_false h1
  go_enter Tryz.func53, Tryz.ntmps53
  go_wp2
  go_ret
  exact ⟨rfl, Below.refl _ _⟩

theorem formL_nil (n : Nat) : FormL n [] (fun _ => 0) :=
 ⟨(fun _ h => by cases h), ⟨fun i k _ hk => absurd hk (by simp), fun i hi => absurd hi (by simp), fun i b hi _ => absurd hi (by simp), fun i hi => absurd hi (by simp), fun i k _ hk => absurd hk (by simp)⟩⟩

theorem matN_nil (w : World) (n : Nat) : MatN w (.slice none 0 0) [] n := ⟨none, 0, rfl, Nat.le_refl _, fun h => absurd h (by simp)⟩

set_option maxRecDepth 100000 in
set_option maxHeartbeats 1600000 in
theorem newL_ok (w : World) (n nv : Nat) (h1 : 1 ≤ n) (h4 : n ≤ 4) :
  Calls Tryz.prog 29 #[.int .i64 (n : Int)] w fun e w' => e = .returned (.tuple #[.agg #[.int .i64 (n : Int), .slice none 0 0], .nilIface]) ∧ LatN w' (.agg #[.int .i64 (n : Int), .slice none 0 0]) n [] nv ∧ Below w.heap.size w w' := by
 have HB0 := hide ((Below.refl w.heap.size w).alloc (Nat.le_refl _) (.cells #[.int .i64 0, .slice none 0 0] 30))
 have HC := hide (box_new w (.int .i64 0) (.slice none 0 0) 30 _ rfl)
 have HSZ : Hid (w.heap.size < (w.alloc (.cells #[.int .i64 0, .slice none 0 0] 30)).heap.size) := by show _ < _; simp
 go_enter Tryz.func29, Tryz.ntmps29
 go_wp2_with fail
 generalize w.alloc (.cells #[.int .i64 0, .slice none 0 0] 30) = W0 at *
 refine (size_any W0 (n : Int)).mono ?_
 rintro e w1 ⟨rfl, hb1⟩
 have e : decide (1 ≤ (n : Int) ∧ (n : Int) ≤ 4) = true := decide_eq_true ⟨by omega, by omega⟩
 rw [e]
 clear e
 have HB1 := hide (HB0.out.trans (hb1.mono HB0.out.size))
 obtain ⟨c0, c1, z0, z1⟩ := HC.out.later hb1 HSZ.out
 have HB2 := hide ((HB1.out.setCell (p := ⟨w.heap.size, 0, none⟩) (by simp) (.int .i64 (n : Int))).setCell (p := ⟨w.heap.size, 1, none⟩) (by simp) (.slice none 0 0))
 clear hb1 HC HSZ HB0 HB1
 go_wp2
 exact bodyPost_ret (v := .tuple #[.agg #[.int .i64 (n : Int), .slice none 0 0], .nilIface]) (by simp [results, Tryz.results29, go_sem, c0, c1]) rfl ⟨rfl, ⟨⟨_, rfl, matN_nil _ _⟩, _, formL_nil _⟩, HB2.out⟩

set_option maxRecDepth 100000 in
set_option maxHeartbeats 1600000 in
theorem checkL_ok (w : World) (v : Value) (n nv : Nat) (hs : List (List Int)) (h : LatN w v n hs nv) (h1 : 1 ≤ n) (h4 : n ≤ 4) :
  Calls Tryz.prog 47 #[v] w fun e w' => e = .returned .nilIface ∧ Below w.heap.size w w' := by
 obtain ⟨⟨u, rfl, hu⟩, p, hF⟩ := h
 have HU := hide hu; have HF := hide hF
 have hlen := hF.short
 obtain ⟨uo, ucap, rfl, -, -⟩ := hu
 clear hF
 have HB0 := hide ((Below.refl w.heap.size w).alloc (Nat.le_refl _) (.cells #[.int .i64 (n : Int), .slice uo hs.length ucap] 30))
 have HC := hide (box_new w (.int .i64 (n : Int)) (.slice uo hs.length ucap) 30 _ rfl)
 have HSZ : Hid (w.heap.size < (w.alloc (.cells #[.int .i64 (n : Int), .slice uo hs.length ucap] 30)).heap.size) := by show _ < _; simp
 go_enter Tryz.func47, Tryz.ntmps47
 go_wp2_with fail
 generalize w.alloc (.cells #[.int .i64 (n : Int), .slice uo hs.length ucap] 30) = W0 at *
 refine (size_any W0 (n : Int)).mono ?_
 rintro e w1 ⟨rfl, hb1⟩
 have e : decide (1 ≤ (n : Int) ∧ (n : Int) ≤ 4) = true := decide_eq_true ⟨by omega, by omega⟩
 rw [e]
 clear e
 have HB1 := hide (HB0.out.trans (hb1.mono HB0.out.size))
 have HD := hide (HC.out.later hb1 HSZ.out)
 have HS1 := hide (Nat.lt_of_lt_of_le HSZ.out hb1.size)
 obtain ⟨c0, c1, z0, z1⟩ := HD.out
 clear hb1 HC HSZ HB0
 go_wp2_with fail
 refine (checkM_ok w1 _ hs n nv (by exact HU.out.below HB1.out (Nat.le_refl _)) h1 (by omega) (by omega) HF.out.len).mono ?_
 rintro e w2 ⟨rfl, hb2⟩
 have HB2 := hide (HB1.out.trans (hb2.mono HB1.out.size))
 obtain ⟨d0, d1, y0, y1⟩ := HD.out.later hb2 HS1.out
 clear hb2 HB1 HD c0 c1 z0 z1
 go_wp2_with fail
 refine (latForm_yes w2 _ hs n nv p (by exact HU.out.below HB2.out (Nat.le_refl _)) HF.out (by omega) (by omega)).mono ?_
 rintro e w3 ⟨rfl, hb3⟩
 have HB3 := hide (HB2.out.trans (hb3.mono HB2.out.size))
 clear hb3 HB2 d0 d1 y0 y1
 go_wp2
 go_ret
 exact ⟨rfl, HB3.out⟩

end Go.Proofs.YtajcdhaaldhlaaaGreatDoor

/- The reference: are two numbers, or vectors, the same? -/
namespace Go.Proofs.YtajcdhaaldhlaaaGreatDoor
open Go.RowKit Limbs

end Go.Proofs.YtajcdhaaldhlaaaGreatDoor

/- The reference: are rows of vectors the same? -/
namespace Go.Proofs.YtajcdhaaldhlaaaGreatDoor
open Go.RowKit Limbs

end Go.Proofs.YtajcdhaaldhlaaaGreatDoor

/- Are two lattices the same? -/
namespace Go.Proofs.YtajcdhaaldhlaaaGreatDoor
open Go.RowKit Limbs

theorem two_boxes (w : World) (a0 a1 b0 b1 : Value) (t t' : TypeId) : Box ((w.alloc (.cells #[a0, a1] t)).alloc (.cells #[b0, b1] t')) w.heap.size a0 a1 ∧ Box ((w.alloc (.cells #[a0, a1] t)).alloc (.cells #[b0, b1] t')) (w.heap.size + 1) b0 b1 ∧ Below w.heap.size w ((w.alloc (.cells #[a0, a1] t)).alloc (.cells #[b0, b1] t')) ∧ w.heap.size + 1 < ((w.alloc (.cells #[a0, a1] t)).alloc (.cells #[b0, b1] t')).heap.size :=
 ⟨(box_new w a0 a1 t _ rfl).later ((Below.refl (w.heap.size + 1) _).alloc (by simp) _) (by omega), box_new _ b0 b1 t' _ (by simp), ((Below.refl w.heap.size w).alloc (Nat.le_refl _) _).alloc (by simp) _, by simp⟩

end Go.Proofs.YtajcdhaaldhlaaaGreatDoor
