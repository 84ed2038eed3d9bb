/- What rows generate together; new lattices. -/
import Derived.Test.YtdedolkgcdlmeaaGreatDoorLatD
import Derived.Test.YtdedolkgcdlmeaaGreatDoorHold
namespace Go.Proofs.YtdedolkgcdlmeaaGreatDoor
open Go.RowKit Limbs

/-- What generated answers. -/
def GenPost (w : World) (n nv : Nat) (ms : List (List Int)) (e : Ending) (w' : World) : Prop :=
  ∃ u hs p, e = .returned (.agg #[.int .i64 (n : Int), u]) ∧ MatN w' u hs (n * nv + 2) ∧ Below w.heap.size w w' ∧ FormL n hs p ∧ Alikes n (InL hs) (InL ms) ∧ Fresh w.heap.size u

/-- A lattice's own variable is written: rows stay. -/
theorem MatN.setBasis {W : World} {B : Nat} {u : Value} {hs : List (List Int)} {nv : Nat} {x : Int} (y z : Value) (h : MatN W u hs nv) (hpos : ∀ zs ∈ hs, 0 < zs.length) (c0 : W.cell? ⟨B, 0, none⟩ = some (.int .i64 x)) (c1 : W.cell? ⟨B, 1, none⟩ = some (.slice none 0 0)) :
    MatN ((W.setCell ⟨B, 0, none⟩ y).setCell ⟨B, 1, none⟩ z) u hs nv := by
  have k1 : (W.setCell ⟨B, 0, none⟩ y).cell? ⟨B, 1, none⟩ = some (.slice none 0 0) := Eq.trans (World.cell?_setCell_other (h := fun e => by simp at e) ..) c1
  have stay : ∀ (b o : Nat) (v : Value), W.cell? ⟨b, o, none⟩ = some v → ¬ (b = B ∧ o = 0) → ¬ (b = B ∧ o = 1) → ((W.setCell ⟨B, 0, none⟩ y).setCell ⟨B, 1, none⟩ z).cell? ⟨b, o, none⟩ = some v := fun b o v hv h0 h1 =>
    Eq.trans (World.cell?_setCell_other (h := fun e => h1 (by simp only [Addr.mk.injEq, and_true] at e; exact ⟨e.1.symm, e.2.symm⟩)) ..) (Eq.trans (World.cell?_setCell_other (h := fun e => h0 (by simp only [Addr.mk.injEq, and_true] at e; exact ⟨e.1.symm, e.2.symm⟩)) ..) hv)
  have hsz : ((W.setCell ⟨B, 0, none⟩ y).setCell ⟨B, 1, none⟩ z).heap.size = W.heap.size := by simp
  obtain ⟨ao, cap, hv, h1, h2⟩ := h
  refine ⟨ao, cap, hv, h1, fun hh => ?_⟩
  obtain ⟨b, off, e, hlt, hc⟩ := h2 hh
  refine ⟨b, off, e, by rw [hsz]; exact hlt, fun i zs hi => ?_⟩
  obtain ⟨v, cv, hv⟩ := hc i zs hi
  have hzs := hpos zs (List.mem_of_getElem? hi)
  obtain ⟨vb, voff, vcap, rfl⟩ := hv.form hzs
  refine ⟨_, stay _ _ _ cv (fun ⟨e1, e2⟩ => ?_) (fun ⟨e1, e2⟩ => ?_), ?_⟩
  · rw [e1, e2, c0] at cv; cases cv
  · rw [e1, e2, c1] at cv; cases cv
  · have hat := fun j (hj : j < zs.length) => hv.at j hj
    obtain ⟨_, _, ev, g1, -⟩ := hv
    refine ⟨_, _, ev, g1, fun _ => ⟨vb, voff, ?_, by rw [hsz]; exact (hat 0 hzs).1, fun j hj => ?_⟩⟩
    · simp only [Value.slice.injEq, true_and] at ev
      exact ev.1.symm
    · obtain ⟨-, neg, o, l, c, d0, d1, hn⟩ := hat j hj
      refine ⟨neg, o, l, c, stay _ _ _ d0 (fun ⟨e1, e2⟩ => ?_) (fun ⟨e1, e2⟩ => ?_), stay _ _ _ d1 (fun ⟨e1, e2⟩ => ?_) (fun ⟨e1, e2⟩ => ?_), (hn.setCell c0 (by simp)).setCell k1 (by simp)⟩
      · rw [e1, e2, c0] at d0; cases d0
      · rw [e1, e2, c1] at d0; cases d0
      · rw [e1, e2, c0] at d1; cases d1
      · have e3 : voff + j * 2 = 0 := by omega
        rw [e1, e3, c0] at d0; cases d0

set_option maxRecDepth 100000 in
set_option maxHeartbeats 1600000 in
theorem generated_two (w : World) (rb : Nat) (va vb : Value) (xs ys : List (List Int)) (n nv : Nat) (h : TwoM w rb va vb xs ys nv) (hl : xs.length + ys.length ≤ 12) (hn1 : 1 ≤ n) (hn : n ≤ 8) (hr : ∀ us ∈ xs ++ ys, us.length = n) (hN : nbK n (n * nv + 2) nv n ≤ 100000) :
    Calls Tryz.prog 81 #[.int .i64 (n : Int), .slice (some ⟨rb, 0, none⟩) 2 2] w fun e w' => GenPost w n nv (xs ++ ys) e w' := by
  have HT := hide h
  have HR := hide hr; have HN := hide hN
  have HB0 := hide ((Below.refl w.heap.size w).alloc (Nat.le_refl _) (.cells #[.int .i64 0, .slice none 0 0] 55))
  have HC := hide (box_new w (.int .i64 0) (.slice none 0 0) 55 _ rfl)
  have HSZ : Hid (w.heap.size < (w.alloc (.cells #[.int .i64 0, .slice none 0 0] 55)).heap.size) := by show _ < _; simp
  clear h hr hN
  go_enter Tryz.func81, Tryz.ntmps81
  go_wp2_with fail
  generalize w.alloc (.cells #[.int .i64 0, .slice none 0 0] 55) = W0 at *
  refine (concat_two W0 rb va vb xs ys nv (HT.out.below HB0.out) (by omega)).mono ?_
  rintro e w1 ⟨v, rfl, hv, hb1⟩
  have HV := hide hv
  have HB1 := hide (HB0.out.trans (hb1.mono HB0.out.size))
  have HD := hide (HC.out.later hb1 HSZ.out)
  have HS1 := hide (Nat.lt_of_lt_of_le HSZ.out hb1.size)
  clear hv hb1 HC HSZ HB0
  go_wp2_with fail
  refine (hermite_new w1 v (xs ++ ys) n nv HV.out HR.out hn1 hn (by rw [List.length_append]; exact hl) HN.out).mono ?_
  rintro e w2 ⟨u, hs, p, rfl, hu, hlen, hb2, hF, hA, hfr⟩
  have hpos : ∀ zs ∈ hs, 0 < zs.length := fun zs hz => by rw [hF.len zs hz]; omega
  obtain ⟨c0, c1, z0, z1⟩ := HD.out.later hb2 HS1.out
  have HB2 := hide (HB1.out.trans (hb2.mono HB1.out.size))
  have HP : Hid (GenPost w n nv (xs ++ ys) (.returned (.agg #[.int .i64 (n : Int), u])) ((w2.setCell ⟨w.heap.size, 0, none⟩ (.int .i64 (n : Int))).setCell ⟨w.heap.size, 1, none⟩ u)) := ⟨u, hs, p, rfl, hu.setBasis _ _ hpos c0 c1, (HB2.out.setCell (by simp) _).setCell (by simp) _, hF, hA, hfr.mono HB1.out.size⟩
  obtain ⟨uo, ucap, rfl, -, -⟩ := hu
  clear hF hA hfr hpos hb2 HB1 HD HV HT HR HN
  go_wp2
  exact bodyPost_ret (v := .agg #[.int .i64 (n : Int), .slice uo hs.length ucap]) (by simp [results, Tryz.results81, go_sem, c0, c1]) rfl HP.out

end Go.Proofs.YtdedolkgcdlmeaaGreatDoor
