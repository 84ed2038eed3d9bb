/- What rows generate together; new lattices. -/
import Derived.Test.YtajcdhaaldhlaaaGreatDoorLatD
import Derived.Test.YtajcdhaaldhlaaaGreatDoorSwap
import Derived.Test.YtajcdhaaldhlaaaGreatDoorVecW
import Derived.Test.YtajcdhaaldhlaaaGreatDoorShift
import Derived.Test.YtajcdhaaldhlaaaGreatDoorMats

namespace Go.Proofs.YtajcdhaaldhlaaaGreatDoor
open Go.RowKit Limbs

def GenPost (w : World) (n nv : Nat) (ms : List (List Int)) (e : Ending) (w' : World) : Prop :=
 ∃ u hs p, e = .returned (.agg #[.int .i64 (n : Int), u]) ∧ MatN w' u hs (n * nv + 2) ∧ Below w.heap.size w w' ∧ FormL n hs p ∧ Alikes n (InL hs) (InL ms) ∧ Fresh w.heap.size u

theorem MatN.setBasis {W : World} {B : Nat} {u : Value} {hs : List (List Int)} {nv : Nat} {x : Int} (y z : Value) (h : MatN W u hs nv) (hpos : ∀ zs ∈ hs, 0 < zs.length) (c0 : W.cell? ⟨B, 0, none⟩ = some (.int .i64 x)) (c1 : W.cell? ⟨B, 1, none⟩ = some (.slice none 0 0)) :
  MatN ((W.setCell ⟨B, 0, none⟩ y).setCell ⟨B, 1, none⟩ z) u hs nv := by
 have k1 : (W.setCell ⟨B, 0, none⟩ y).cell? ⟨B, 1, none⟩ = some (.slice none 0 0) := Eq.trans (World.cell?_setCell_other (h := fun e => by simp at e) ..) c1
 have stay : ∀ (b o : Nat) (v : Value), W.cell? ⟨b, o, none⟩ = some v → ¬ (b = B ∧ o = 0) → ¬ (b = B ∧ o = 1) → ((W.setCell ⟨B, 0, none⟩ y).setCell ⟨B, 1, none⟩ z).cell? ⟨b, o, none⟩ = some v := fun b o v hv h0 h1 =>
  Eq.trans (World.cell?_setCell_other (h := fun e => h1 (by simp only [Addr.mk.injEq, and_true] at e; exact ⟨e.1.symm, e.2.symm⟩)) ..) (Eq.trans (World.cell?_setCell_other (h := fun e => h0 (by simp only [Addr.mk.injEq, and_true] at e; exact ⟨e.1.symm, e.2.symm⟩)) ..) hv)
 have hsz : ((W.setCell ⟨B, 0, none⟩ y).setCell ⟨B, 1, none⟩ z).heap.size = W.heap.size := by simp
 obtain ⟨ao, cap, hv, h1, h2⟩ := h
 refine ⟨ao, cap, hv, h1, fun hh => ?_⟩
 obtain ⟨b, off, e, hlt, hc⟩ := h2 hh
 refine ⟨b, off, e, by rw [hsz]; exact hlt, fun i zs hi => ?_⟩
 obtain ⟨v, cv, hv⟩ := hc i zs hi
 have hzs := hpos zs (List.mem_of_getElem? hi)
 obtain ⟨vb, voff, vcap, rfl⟩ := hv.form hzs
 refine ⟨_, stay _ _ _ cv (fun ⟨e1, e2⟩ => ?_) (fun ⟨e1, e2⟩ => ?_), ?_⟩
 ·rw [e1, e2, c0] at cv; cases cv
 ·rw [e1, e2, c1] at cv; cases cv
 ·have hat := fun j (hj : j < zs.length) => hv.at j hj
  obtain ⟨_, _, ev, g1, -⟩ := hv
  refine ⟨_, _, ev, g1, fun _ => ⟨vb, voff, ?_, by rw [hsz]; exact (hat 0 hzs).1, fun j hj => ?_⟩⟩
  ·simp only [Value.slice.injEq, true_and] at ev
   exact ev.1.symm
  ·obtain ⟨-, neg, o, l, c, d0, d1, hn⟩ := hat j hj
   refine ⟨neg, o, l, c, stay _ _ _ d0 (fun ⟨e1, e2⟩ => ?_) (fun ⟨e1, e2⟩ => ?_), stay _ _ _ d1 (fun ⟨e1, e2⟩ => ?_) (fun ⟨e1, e2⟩ => ?_), (hn.setCell c0 (by simp)).setCell k1 (by simp)⟩
   ·rw [e1, e2, c0] at d0; cases d0
   ·rw [e1, e2, c1] at d0; cases d0
   ·rw [e1, e2, c0] at d1; cases d1
   ·have e3 : voff + j * 2 = 0 := by omega
    rw [e1, e3, c0] at d0; cases d0

set_option maxRecDepth 100000 in
set_option maxHeartbeats 1600000 in
theorem generated_two (w : World) (rb : Nat) (va vb : Value) (xs ys : List (List Int)) (n nv : Nat) (h : TwoM w rb va vb xs ys nv) (hl : xs.length + ys.length ≤ 12) (hn1 : 1 ≤ n) (hn : n ≤ 8) (hr : ∀ us ∈ xs ++ ys, us.length = n) (hN : nbK n (n * nv + 2) nv n ≤ 100000) :
  Calls Tryz.prog 33 #[.int .i64 (n : Int), .slice (some ⟨rb, 0, none⟩) 2 2] w fun e w' => GenPost w n nv (xs ++ ys) e w' := by
 have HT := hide h
 have HR := hide hr; have HN := hide hN
 have HB0 := hide ((Below.refl w.heap.size w).alloc (Nat.le_refl _) (.cells #[.int .i64 0, .slice none 0 0] 30))
 have HC := hide (box_new w (.int .i64 0) (.slice none 0 0) 30 _ rfl)
 have HSZ : Hid (w.heap.size < (w.alloc (.cells #[.int .i64 0, .slice none 0 0] 30)).heap.size) := by show _ < _; simp
 clear h hr hN
 go_enter Tryz.func33, Tryz.ntmps33
 go_wp2_with fail
 generalize w.alloc (.cells #[.int .i64 0, .slice none 0 0] 30) = W0 at *
 refine (concat_two W0 rb va vb xs ys nv (HT.out.below HB0.out) (by omega)).mono ?_
 rintro e w1 ⟨v, rfl, hv, hb1⟩
 have HV := hide hv
 have HB1 := hide (HB0.out.trans (hb1.mono HB0.out.size))
 have HD := hide (HC.out.later hb1 HSZ.out)
 have HS1 := hide (Nat.lt_of_lt_of_le HSZ.out hb1.size)
 clear hv hb1 HC HSZ HB0
 go_wp2_with fail
 refine (hermite_new w1 v (xs ++ ys) n nv HV.out HR.out hn1 hn (by rw [List.length_append]; exact hl) HN.out).mono ?_
 rintro e w2 ⟨u, hs, p, rfl, hu, hlen, hb2, hF, hA, hfr⟩
 have hpos : ∀ zs ∈ hs, 0 < zs.length := fun zs hz => by rw [hF.len zs hz]; omega
 obtain ⟨c0, c1, z0, z1⟩ := HD.out.later hb2 HS1.out
 have HB2 := hide (HB1.out.trans (hb2.mono HB1.out.size))
 have HP : Hid (GenPost w n nv (xs ++ ys) (.returned (.agg #[.int .i64 (n : Int), u])) ((w2.setCell ⟨w.heap.size, 0, none⟩ (.int .i64 (n : Int))).setCell ⟨w.heap.size, 1, none⟩ u)) := ⟨u, hs, p, rfl, hu.setBasis _ _ hpos c0 c1, (HB2.out.setCell (by simp) _).setCell (by simp) _, hF, hA, hfr.mono HB1.out.size⟩
 obtain ⟨uo, ucap, rfl, -, -⟩ := hu
 clear hF hA hfr hpos hb2 HB1 HD HV HT HR HN
 go_wp2
 exact bodyPost_ret (v := .agg #[.int .i64 (n : Int), .slice uo hs.length ucap]) (by simp [results, Tryz.results33, go_sem, c0, c1]) rfl HP.out

end Go.Proofs.YtajcdhaaldhlaaaGreatDoor

/- Lattices: sizes, new ones, the checks of those that are. -/
namespace Go.Proofs.YtajcdhaaldhlaaaGreatDoor
open Go.RowKit Limbs

def LatN (w : World) (v : Value) (n : Nat) (hs : List (List Int)) (nv : Nat) : Prop := (∃ u, v = .agg #[.int .i64 (n : Int), u] ∧ MatN w u hs nv) ∧ ∃ p, FormL n hs p

theorem LatN.below {w w' : World} {v : Value} {n : Nat} {hs : List (List Int)} {nv : Nat} (h : LatN w v n hs nv) (hb : Below w.heap.size w w') : LatN w' v n hs nv := by
 obtain ⟨⟨u, e, hu⟩, hp⟩ := h
 exact ⟨⟨u, e, hu.below hb (Nat.le_refl _)⟩, hp⟩

set_option maxRecDepth 100000 in
theorem size_any (w : World) (n : Int) : Calls Tryz.prog 53 #[.int .i64 n] w fun e w' => e = .returned (.bool (decide (1 ≤ n ∧ n ≤ 4))) ∧ Below w.heap.size w w' := by
 by_cases h1 : 1 ≤ n
 ·by_cases h2 : n ≤ 4
  ·have e : decide (1 ≤ n ∧ n ≤ 4) = true := decide_eq_true ⟨h1, h2⟩
   rw [e]
   clear e
   have g1 : decide (1 ≤ n) = true := decide_eq_true h1
   have g2 : decide (n ≤ 4) = true := decide_eq_true h2
   go_enter Tryz.func53, Tryz.ntmps53
   go_wp2
   go_ret
   exact ⟨rfl, Below.refl _ _⟩
  ·have e : decide (1 ≤ n ∧ n ≤ 4) = false := decide_eq_false (fun h => h2 h.2)
   rw [e]
   clear e
   have g1 : decide (1 ≤ n) = true := decide_eq_true h1
   have g2 : decide (n ≤ 4) = false := decide_eq_false h2
   go_enter Tryz.func53, Tryz.ntmps53
   go_wp2
   go_ret
   exact ⟨rfl, Below.refl _ _⟩
 ·have e : decide (1 ≤ n ∧ n ≤ 4) = false := decide_eq_false (fun h => h1 h.1)
  rw [e]
  clear e
  have g1 : decide (1 ≤ n) = false := decide_eq_false h1
  go_enter Tryz.func53, Tryz.ntmps53
  go_wp2
  go_ret
  exact ⟨rfl, Below.refl _ _⟩

theorem formL_nil (n : Nat) : FormL n [] (fun _ => 0) :=
 ⟨(fun _ h => by cases h), ⟨fun i k _ hk => absurd hk (by simp), fun i hi => absurd hi (by simp), fun i b hi _ => absurd hi (by simp), fun i hi => absurd hi (by simp), fun i k _ hk => absurd hk (by simp)⟩⟩

theorem matN_nil (w : World) (n : Nat) : MatN w (.slice none 0 0) [] n := ⟨none, 0, rfl, Nat.le_refl _, fun h => absurd h (by simp)⟩

set_option maxRecDepth 100000 in
set_option maxHeartbeats 1600000 in
theorem newL_ok (w : World) (n nv : Nat) (h1 : 1 ≤ n) (h4 : n ≤ 4) :
  Calls Tryz.prog 29 #[.int .i64 (n : Int)] w fun e w' => e = .returned (.tuple #[.agg #[.int .i64 (n : Int), .slice none 0 0], .nilIface]) ∧ LatN w' (.agg #[.int .i64 (n : Int), .slice none 0 0]) n [] nv ∧ Below w.heap.size w w' := by
 have HB0 := hide ((Below.refl w.heap.size w).alloc (Nat.le_refl _) (.cells #[.int .i64 0, .slice none 0 0] 30))
 have HC := hide (box_new w (.int .i64 0) (.slice none 0 0) 30 _ rfl)
 have HSZ : Hid (w.heap.size < (w.alloc (.cells #[.int .i64 0, .slice none 0 0] 30)).heap.size) := by show _ < _; simp
 go_enter Tryz.func29, Tryz.ntmps29
 go_wp2_with fail
 generalize w.alloc (.cells #[.int .i64 0, .slice none 0 0] 30) = W0 at *
 refine (size_any W0 (n : Int)).mono ?_
 rintro e w1 ⟨rfl, hb1⟩
 have e : decide (1 ≤ (n : Int) ∧ (n : Int) ≤ 4) = true := decide_eq_true ⟨by omega, by omega⟩
 rw [e]
 clear e
 have HB1 := hide (HB0.out.trans (hb1.mono HB0.out.size))
 obtain ⟨c0, c1, z0, z1⟩ := HC.out.later hb1 HSZ.out
 have HB2 := hide ((HB1.out.setCell (p := ⟨w.heap.size, 0, none⟩) (by simp) (.int .i64 (n : Int))).setCell (p := ⟨w.heap.size, 1, none⟩) (by simp) (.slice none 0 0))
 clear hb1 HC HSZ HB0 HB1
 go_wp2
 exact bodyPost_ret (v := .tuple #[.agg #[.int .i64 (n : Int), .slice none 0 0], .nilIface]) (by simp [results, Tryz.results29, go_sem, c0, c1]) rfl ⟨rfl, ⟨⟨_, rfl, matN_nil _ _⟩, _, formL_nil _⟩, HB2.out⟩

set_option maxRecDepth 100000 in
set_option maxHeartbeats 1600000 in
theorem checkL_ok (w : World) (v : Value) (n nv : Nat) (hs : List (List Int)) (h : LatN w v n hs nv) (h1 : 1 ≤ n) (h4 : n ≤ 4) :
  Calls Tryz.prog 47 #[v] w fun e w' => e = .returned .nilIface ∧ Below w.heap.size w w' := by
 obtain ⟨⟨u, rfl, hu⟩, p, hF⟩ := h
 have HU := hide hu; have HF := hide hF
 have hlen := hF.short
 obtain ⟨uo, ucap, rfl, -, -⟩ := hu
 clear hF
 have HB0 := hide ((Below.refl w.heap.size w).alloc (Nat.le_refl _) (.cells #[.int .i64 (n : Int), .slice uo hs.length ucap] 30))
 have HC := hide (box_new w (.int .i64 (n : Int)) (.slice uo hs.length ucap) 30 _ rfl)
 have HSZ : Hid (w.heap.size < (w.alloc (.cells #[.int .i64 (n : Int), .slice uo hs.length ucap] 30)).heap.size) := by show _ < _; simp
 go_enter Tryz.func47, Tryz.ntmps47
 go_wp2_with fail
 generalize w.alloc (.cells #[.int .i64 (n : Int), .slice uo hs.length ucap] 30) = W0 at *
 refine (size_any W0 (n : Int)).mono ?_
 rintro e w1 ⟨rfl, hb1⟩
 have e : decide (1 ≤ (n : Int) ∧ (n : Int) ≤ 4) = true := decide_eq_true ⟨by omega, by omega⟩
 rw [e]
 clear e
 have HB1 := hide (HB0.out.trans (hb1.mono HB0.out.size))
 have HD := hide (HC.out.later hb1 HSZ.out)
 have HS1 := hide (Nat.lt_of_lt_of_le HSZ.out hb1.size)
 obtain ⟨c0, c1, z0, z1⟩ := HD.out
 clear hb1 HC HSZ HB0
 go_wp2_with fail
 refine (checkM_ok w1 _ hs n nv (by exact HU.out.below HB1.out (Nat.le_refl _)) h1 (by omega) (by omega) HF.out.len).mono ?_
 rintro e w2 ⟨rfl, hb2⟩
 have HB2 := hide (HB1.out.trans (hb2.mono HB1.out.size))
 obtain ⟨d0, d1, y0, y1⟩ := HD.out.later hb2 HS1.out
 clear hb2 HB1 HD c0 c1 z0 z1
 go_wp2_with fail
 refine (latForm_yes w2 _ hs n nv p (by exact HU.out.below HB2.out (Nat.le_refl _)) HF.out (by omega) (by omega)).mono ?_
 rintro e w3 ⟨rfl, hb3⟩
 have HB3 := hide (HB2.out.trans (hb3.mono HB2.out.size))
 clear hb3 HB2 d0 d1 y0 y1
 go_wp2
 go_ret
 exact ⟨rfl, HB3.out⟩

end Go.Proofs.YtajcdhaaldhlaaaGreatDoor

/- The reference: are two numbers, or vectors, the same? -/
namespace Go.Proofs.YtajcdhaaldhlaaaGreatDoor
open Go.RowKit Limbs

theorem numS_same {neg neg' : Bool} {zs zs' : List Int} (h1 : LB zs) (h2 : LB zs') (n1 : Nrm zs) (n2 : Nrm zs') (e1 : zs.length = 0 → neg = false) (e2 : zs'.length = 0 → neg' = false)
  (h : (if neg = true then -lv zs else lv zs) = (if neg' = true then -lv zs' else lv zs')) : neg = neg' ∧ zs = zs' := by
 have p1 := lv_nonneg h1
 have p2 := lv_nonneg h2
 have q1 := lv_zero_iff h1 n1
 have q2 := lv_zero_iff h2 n2
 cases neg <;> cases neg' <;> simp at h
 ·exact ⟨rfl, lv_inj h1 h2 n1 n2 h⟩
 ·exfalso
  have := e2 (q2.1 (by omega)); simp at this
 ·exfalso
  have := e1 (q1.1 (by omega)); simp at this
 ·exact ⟨rfl, lv_inj h1 h2 n1 n2 (by omega)⟩

set_option maxRecDepth 100000 in
set_option maxHeartbeats 1600000 in
theorem sameInt_any (w : World) (va vb : Value) (x y : Int) (n m : Nat) (ha : NumL w va x n) (hb : NumL w vb y m) :
  Calls Tryz.prog 121 #[va, vb] w fun e w' => e = .returned (.bool (decide (x = y))) ∧ Below w.heap.size w w' := by
 obtain ⟨an, sa, zs, rfl, hla, nra, ea, hx, -⟩ := ha
 obtain ⟨bn, sb, zs', rfl, hlb, nrb, eb, hy, -⟩ := hb
 have HA := hide hla
 have HB := hide hlb
 obtain ⟨ao, acap, rfl, hacap, halen, halb, -⟩ := hla
 obtain ⟨bo, bcap, rfl, hbcap, hblen, hblb, -⟩ := hlb
 have HD : Hid (decide (x = y) = decide (an = bn ∧ zs = zs')) := by
  show _ = _
  by_cases h : x = y
  ·rw [decide_eq_true h, decide_eq_true (numS_same halb hblb nra nrb ea eb (hx.symm.trans (h.trans hy)))]
  ·rw [decide_eq_false h, decide_eq_false (fun h' => h (by rw [hx, hy, h'.1, h'.2]))]
 rw [HD.out]
 generalize hr : decide (an = bn ∧ zs = zs') = r
 have HR : Hid (r = decide (an = bn ∧ zs = zs')) := hr.symm
 clear hx hy ea eb nra nrb HD hr
 have hT := two w (.bool an) (.slice ao zs.length acap) (.bool bn) (.slice bo zs'.length bcap) 51 51
 have HT := hide hT
 obtain ⟨_, _, e, -, -, -, hac⟩ := HA.out.below hT.below (Nat.le_refl _)
 simp only [Value.slice.injEq, true_and] at e
 obtain ⟨rfl, rfl⟩ := e
 obtain ⟨_, _, e, -, -, -, hbc⟩ := HB.out.below hT.below (Nat.le_refl _)
 simp only [Value.slice.injEq, true_and] at e
 obtain ⟨rfl, rfl⟩ := e
 have HAC := hide hac
 have HBC := hide hbc
 clear hac hbc HA HB
 by_cases hn : an = bn
 ·subst hn
  by_cases hl : zs.length = zs'.length
  ·have HL := hide hl
   have hl1 : ((zs.length : Int) == (zs'.length : Int)) = true := by rw [beq_iff_eq]; omega
   have hl2 : ((zs.length : Int) != (zs'.length : Int)) = false := by rw [bne_eq_false_iff_eq]; omega
   clear hl
   go_enter Tryz.func121, Tryz.ntmps121
   go_wp2
   generalize (w.alloc (.cells #[.bool an, .slice ao zs.length acap] 51)).alloc (.cells #[.bool an, .slice bo zs'.length bcap] 51) = W at *
   clear hT
   obtain ⟨k0, k1, -, -⟩ := HT.out.fst
   obtain ⟨l0, l1, -, -⟩ := HT.out.res
   go_loopw [5] (fun i wr => ∃ k nq : Nat, k ≤ zs.length ∧ i = .int .i64 k ∧ wr = W.drewN nq ∧ Hid (zs.take k = zs'.take k)) (fun i _ => zs.length - (intOf i).toNat)
   case atStart => exact ⟨0, 0, Nat.zero_le _, rfl, by simp [World.drewN_zero], by show _ = _; simp⟩
   case round =>
    obtain ⟨k, nq, hk, rfl, rfl, HG⟩ := hrel
    by_cases hlt : k < zs.length
    ·obtain ⟨ab, aoff, rfl, -, hac⟩ := HAC.out (by omega)
     have hlt' : k < zs'.length := by have := HL.out; omega
     obtain ⟨bb, boff, rfl, -, hbc⟩ := HBC.out (by omega)
     have hca := hac k hlt
     have hcb := hbc k hlt'
     have HTS := hide (fun e => take_eq_succ hlt hlt' HG.out e)
     have HNE : Hid (zs.getD k 0 ≠ zs'.getD k 0 → r = false) := fun h => HR.out.trans (decide_eq_false fun e => h (by rw [e.2]))
     clear hac hbc HAC HBC
     generalize zs.getD k 0 = z at *
     generalize zs'.getD k 0 = y' at *
     by_cases hzy : z = y'
     ·have HG' := hide (HTS.out hzy)
      subst hzy
      clear HTS HNE HG
      go_wp2
      go_quiet (fail)
      go_wp2
      go_roundw
      case rel => exact ⟨k + 1, _, by omega, by go_num, rfl, HG'⟩
      case measure => simp [intOf]; omega
     ·obtain rfl : r = false := HNE.out hzy
      have hz1 : (z == y') = false := by rw [beq_eq_false_iff_ne]; exact hzy
      have hz2 : (z != y') = true := by rw [bne_iff_ne]; exact hzy
      clear HTS HNE HG
      go_wp2
      go_quiet (fail)
      go_wp2
      go_ret
      exact ⟨rfl, by first | exact below_drewN HT.out.below _ | exact below_drewN (below_drewN HT.out.below _) _⟩
    ·obtain rfl : r = true := by
      obtain rfl : k = zs.length := by omega
      have := HG.out
      rw [List.take_length, List.take_of_length_le (by have := HL.out; omega)] at this
      exact HR.out.trans (decide_eq_true (by first | exact ⟨rfl, this⟩ | exact ⟨trivial, this⟩))
     clear HG
     go_wp2
     go_ret
     exact ⟨rfl, below_drewN HT.out.below _⟩
  ·have hl1 : ((zs.length : Int) == (zs'.length : Int)) = false := by rw [beq_eq_false_iff_ne]; omega
   have hl2 : ((zs.length : Int) != (zs'.length : Int)) = true := by rw [bne_iff_ne]; omega
   obtain rfl : r = false := HR.out.trans (decide_eq_false fun e => hl (by rw [e.2]))
   clear hl HAC HBC
   go_enter Tryz.func121, Tryz.ntmps121
   go_wp2
   go_ret
   exact ⟨rfl, HT.out.below⟩
 ·have hn1 : (an == bn) = false := by rw [beq_eq_false_iff_ne]; exact hn
  have hn2 : (an != bn) = true := by rw [bne_iff_ne]; exact hn
  obtain rfl : r = false := HR.out.trans (decide_eq_false fun e => hn e.1)
  clear hn HAC HBC
  go_enter Tryz.func121, Tryz.ntmps121
  go_wp2
  go_ret
  exact ⟨rfl, HT.out.below⟩

set_option maxRecDepth 100000 in
set_option maxHeartbeats 1600000 in
theorem sameVec_any (w : World) (va vb : Value) (zs ys : List Int) (n m : Nat) (ha : VecN w va zs n) (hb : VecN w vb ys m) (hzl : zs.length ≤ 100000) (r : Bool) (hr : r = decide (zs = ys)) :
  Calls Tryz.prog 103 #[va, vb] w fun e w' => e = .returned (.bool r) ∧ Below w.heap.size w w' := by
 have HA := hide ha; have HB := hide hb
 have HR := hide hr
 clear hr
 by_cases hl : zs.length = ys.length
 ·obtain ⟨ao, acap, rfl, -, -⟩ := ha
  obtain ⟨bo, bcap, rfl, -, -⟩ := hb
  have hl1 : ((zs.length : Int) == (ys.length : Int)) = true := by rw [beq_iff_eq]; omega
  have hl2 : ((zs.length : Int) != (ys.length : Int)) = false := by rw [bne_eq_false_iff_eq]; omega
  have HLN := hide hl
  clear hl
  go_enter Tryz.func103, Tryz.ntmps103
  go_wp2
  go_loopw [5] (fun i wr => ∃ k : Nat, k ≤ zs.length ∧ i = .int .i64 k ∧ Hid (zs.take k = ys.take k) ∧ Below w.heap.size w wr) (fun i _ => zs.length - (intOf i).toNat)
  case atStart => exact ⟨0, Nat.zero_le _, rfl, by show _ = _; simp, Below.refl _ _⟩
  case round =>
   obtain ⟨k, hk, rfl, HG, hbe⟩ := hrel
   have HBE := hide hbe
   clear hbe
   by_cases hkl : k < zs.length
   ·have hky : k < ys.length := by have := HLN.out; omega
    obtain ⟨ab, aoff, _, e⟩ := HA.out.form (by omega)
    simp only [Value.slice.injEq, true_and] at e
    obtain ⟨rfl, rfl⟩ := e
    obtain ⟨bb, boff, _, e⟩ := HB.out.form (by omega)
    simp only [Value.slice.injEq, true_and] at e
    obtain ⟨rfl, rfl⟩ := e
    obtain ⟨la, an, ao, al, ac, a0, a1, na⟩ := (HA.out.below HBE.out (Nat.le_refl _)).at k hkl
    obtain ⟨lb, bn, bo, bl, bc, b0, b1, nb⟩ := (HB.out.below HBE.out (Nat.le_refl _)).at k hky
    have NA := hide na; have NB := hide nb
    have HTS := hide (fun e => take_eq_succ hkl hky HG.out e)
    have HNE : Hid (zs.getD k 0 ≠ ys.getD k 0 → r = false) := fun h => by
     rw [HR.out]; exact decide_eq_false fun e => h (by rw [e])
    clear na nb
    generalize zs.getD k 0 = z at *
    generalize ys.getD k 0 = y at *
    go_wp2_with fail
    go_region_held3 (fun w' => w'.cell? ⟨ab, aoff + k * 2, none⟩ = some (.bool an) ∧ w'.cell? ⟨ab, aoff + k * 2 + 1, none⟩ = some (.slice ao al ac) ∧ w'.cell? ⟨bb, boff + k * 2, none⟩ = some (.bool bn) ∧ w'.cell? ⟨bb, boff + k * 2 + 1, none⟩ = some (.slice bo bl bc)) (go_keep)
     (first
      | (go_at_call 121; refine (sameInt_any _ _ _ z y n m (by exact NA.out) (by exact NB.out)).mono ?_; rintro e w1 ⟨rfl, hb1⟩; have HB1 := hide (show Below w.heap.size w w1 from HBE.out.drew.trans (hb1.mono HBE.out.size)); have p0 := (hb1.cell (p := ⟨ab, aoff + k * 2, none⟩) la).trans a0; have p1 := (hb1.cell (p := ⟨ab, aoff + k * 2 + 1, none⟩) la).trans a1; have p2 := (hb1.cell (p := ⟨bb, boff + k * 2, none⟩) lb).trans b0; have p3 := (hb1.cell (p := ⟨bb, boff + k * 2 + 1, none⟩) lb).trans b1; clear hb1))
    by_cases hz : z = y
    ·have HG' := hide (HTS.out hz)
     have ez : decide (z = y) = true := decide_eq_true hz
     rw [ez]
     clear HTS HNE hz ez p0 p1 p2 p3 a0 a1 b0 b1
     go_wp2
     go_roundw
     case rel => exact ⟨k + 1, by omega, by go_num, HG', HB1.out⟩
     case measure => simp [intOf]; omega
    ·have ez : decide (z = y) = false := decide_eq_false hz
     rw [ez]
     obtain rfl : r = false := HNE.out hz
     clear HTS HNE hz ez p0 p1 p2 p3 a0 a1 b0 b1
     go_wp2
     go_ret
     exact ⟨rfl, HB1.out⟩
   ·obtain rfl : k = zs.length := by omega
    have HE : Hid (zs = ys) := by
     have := HG.out
     rw [List.take_length, List.take_of_length_le (by have := HLN.out; omega)] at this
     exact this
    obtain rfl : r = true := by rw [HR.out]; exact decide_eq_true HE.out
    clear HG HE
    go_wp2
    go_ret
    exact ⟨rfl, HBE.out⟩
 ·obtain ⟨ao, acap, rfl, -, -⟩ := ha
  obtain ⟨bo, bcap, rfl, -, -⟩ := hb
  have hl1 : ((zs.length : Int) == (ys.length : Int)) = false := by rw [beq_eq_false_iff_ne]; omega
  have hl2 : ((zs.length : Int) != (ys.length : Int)) = true := by rw [bne_iff_ne]; omega
  obtain rfl : r = false := by rw [HR.out]; exact decide_eq_false fun e => hl (by rw [e])
  go_enter Tryz.func103, Tryz.ntmps103
  go_wp2
  go_ret
  exact ⟨rfl, Below.refl _ _⟩

end Go.Proofs.YtajcdhaaldhlaaaGreatDoor

/- The reference: are rows of vectors the same? -/
namespace Go.Proofs.YtajcdhaaldhlaaaGreatDoor
open Go.RowKit Limbs

theorem take_eq_rows {zs ys : List (List Int)} {k : Nat} (h1 : k < zs.length) (h2 : k < ys.length) (h : zs.take k = ys.take k) (e : zs[k] = ys[k]) : zs.take (k + 1) = ys.take (k + 1) := by
 rw [List.take_succ_eq_append_getElem h1, List.take_succ_eq_append_getElem h2, h, e]

set_option maxRecDepth 100000 in
set_option maxHeartbeats 1600000 in
theorem sameMat_any (w : World) (va vb : Value) (zss yss : List (List Int)) (n m : Nat) (ha : MatN w va zss n) (hb : MatN w vb yss m) (hzl : zss.length ≤ 100000) (hz : ∀ zs ∈ zss, zs.length ≤ 100000) (r : Bool) (hr : r = decide (zss = yss)) :
  Calls Tryz.prog 67 #[va, vb] w fun e w' => e = .returned (.bool r) ∧ Below w.heap.size w w' := by
 have HA := hide ha; have HB := hide hb
 have HR := hide hr; have HZ := hide hz
 clear hr hz
 by_cases hl : zss.length = yss.length
 ·obtain ⟨ao, acap, rfl, -, -⟩ := ha
  obtain ⟨bo, bcap, rfl, -, -⟩ := hb
  have hl1 : ((zss.length : Int) == (yss.length : Int)) = true := by rw [beq_iff_eq]; omega
  have hl2 : ((zss.length : Int) != (yss.length : Int)) = false := by rw [bne_eq_false_iff_eq]; omega
  have HLN := hide hl
  clear hl
  go_enter Tryz.func67, Tryz.ntmps67
  go_wp2
  go_loopw [5] (fun i wr => ∃ k : Nat, k ≤ zss.length ∧ i = .int .i64 k ∧ Hid (zss.take k = yss.take k) ∧ Below w.heap.size w wr) (fun i _ => zss.length - (intOf i).toNat)
  case atStart => exact ⟨0, Nat.zero_le _, rfl, by show _ = _; simp, Below.refl _ _⟩
  case round =>
   obtain ⟨k, hk, rfl, HG, hbe⟩ := hrel
   have HBE := hide hbe
   clear hbe
   by_cases hkl : k < zss.length
   ·have hky : k < yss.length := by have := HLN.out; omega
    obtain ⟨ab, aoff, _, e, la, ua, a0, na⟩ := (HA.out.below HBE.out (Nat.le_refl _)).at k hkl
    simp only [Value.slice.injEq, true_and] at e
    obtain ⟨rfl, rfl⟩ := e
    obtain ⟨bb, boff, _, e, lb, ub, b0, nb⟩ := (HB.out.below HBE.out (Nat.le_refl _)).at k hky
    simp only [Value.slice.injEq, true_and] at e
    obtain ⟨rfl, rfl⟩ := e
    have NA := hide na; have NB := hide nb
    have HTS := hide (fun e => take_eq_rows hkl hky HG.out e)
    have hzk := HZ.out _ (List.getElem_mem hkl)
    have HNE : Hid (zss[k] ≠ yss[k] → r = false) := fun h => by
     rw [HR.out]; exact decide_eq_false fun e => h (by simp only [e])
    clear na nb
    generalize zss[k] = z at *
    generalize yss[k] = y at *
    obtain ⟨uo1, uc1, rfl, -, -⟩ := NA.out
    obtain ⟨uo2, uc2, rfl, -, -⟩ := NB.out
    go_wp2_with fail
    go_region_held3 (fun w' => w'.cell? ⟨ab, aoff + k, none⟩ = some (.slice uo1 z.length uc1) ∧ w'.cell? ⟨bb, boff + k, none⟩ = some (.slice uo2 y.length uc2)) (go_keep)
     (first
      | (go_at_call 103; refine (sameVec_any _ _ _ z y n m (by exact NA.out) (by exact NB.out) hzk _ rfl).mono ?_; rintro e w1 ⟨rfl, hb1⟩; have HB1 := hide (show Below w.heap.size w w1 from HBE.out.drew.trans (hb1.mono HBE.out.size)); have p0 := (hb1.cell (p := ⟨ab, aoff + k, none⟩) la).trans a0; have p1 := (hb1.cell (p := ⟨bb, boff + k, none⟩) lb).trans b0; clear hb1))
    by_cases hz : z = y
    ·have HG' := hide (HTS.out hz)
     have ez : decide (z = y) = true := decide_eq_true hz
     rw [ez]
     clear HTS HNE hz ez p0 p1 a0 b0
     go_wp2
     go_roundw
     case rel => exact ⟨k + 1, by omega, by go_num, HG', HB1.out⟩
     case measure => simp [intOf]; omega
    ·have ez : decide (z = y) = false := decide_eq_false hz
     rw [ez]
     obtain rfl : r = false := HNE.out hz
     clear HTS HNE hz ez p0 p1 a0 b0
     go_wp2
     go_ret
     exact ⟨rfl, HB1.out⟩
   ·obtain rfl : k = zss.length := by omega
    have HE : Hid (zss = yss) := by
     have := HG.out
     rw [List.take_length, List.take_of_length_le (by have := HLN.out; omega)] at this
     exact this
    obtain rfl : r = true := by rw [HR.out]; exact decide_eq_true HE.out
    clear HG HE
    go_wp2
    go_ret
    exact ⟨rfl, HBE.out⟩
 ·obtain ⟨ao, acap, rfl, -, -⟩ := ha
  obtain ⟨bo, bcap, rfl, -, -⟩ := hb
  have hl1 : ((zss.length : Int) == (yss.length : Int)) = false := by rw [beq_eq_false_iff_ne]; omega
  have hl2 : ((zss.length : Int) != (yss.length : Int)) = true := by rw [bne_iff_ne]; omega
  obtain rfl : r = false := by rw [HR.out]; exact decide_eq_false fun e => hl (by rw [e])
  go_enter Tryz.func67, Tryz.ntmps67
  go_wp2
  go_ret
  exact ⟨rfl, Below.refl _ _⟩

end Go.Proofs.YtajcdhaaldhlaaaGreatDoor

/- Are two lattices the same? -/
namespace Go.Proofs.YtajcdhaaldhlaaaGreatDoor
open Go.RowKit Limbs

theorem two_boxes (w : World) (a0 a1 b0 b1 : Value) (t t' : TypeId) : Box ((w.alloc (.cells #[a0, a1] t)).alloc (.cells #[b0, b1] t')) w.heap.size a0 a1 ∧ Box ((w.alloc (.cells #[a0, a1] t)).alloc (.cells #[b0, b1] t')) (w.heap.size + 1) b0 b1 ∧ Below w.heap.size w ((w.alloc (.cells #[a0, a1] t)).alloc (.cells #[b0, b1] t')) ∧ w.heap.size + 1 < ((w.alloc (.cells #[a0, a1] t)).alloc (.cells #[b0, b1] t')).heap.size :=
 ⟨(box_new w a0 a1 t _ rfl).later ((Below.refl (w.heap.size + 1) _).alloc (by simp) _) (by omega), box_new _ b0 b1 t' _ (by simp), ((Below.refl w.heap.size w).alloc (Nat.le_refl _) _).alloc (by simp) _, by simp⟩

set_option maxRecDepth 100000 in
set_option maxHeartbeats 1600000 in
theorem sameB_any (w : World) (va vb : Value) (n nv mv : Nat) (hs ks : List (List Int)) (ha : LatN w va n hs nv) (hb : LatN w vb n ks mv) (hn : n ≤ 1000) :
  Calls Tryz.prog 41 #[va, vb] w fun e w' => e = .returned (.bool (decide (hs = ks))) ∧ Below w.heap.size w w' := by
 obtain ⟨⟨u, rfl, hu⟩, p, hF⟩ := ha
 obtain ⟨⟨v, rfl, hv⟩, q, hG⟩ := hb
 have HU := hide hu; have HV := hide hv
 have h1 := hF.short
 have HLE : Hid (∀ zs ∈ hs, zs.length ≤ 100000) := fun zs hz => by have := hF.len zs hz; omega
 obtain ⟨uo, ucap, rfl, -, -⟩ := hu
 obtain ⟨vo, vcap, rfl, -, -⟩ := hv
 clear hF hG
 have HX := hide (two_boxes w (.int .i64 (n : Int)) (.slice uo hs.length ucap) (.int .i64 (n : Int)) (.slice vo ks.length vcap) 30 30)
 obtain ⟨⟨c0, c1, z0, z1⟩, ⟨d0, d1, y0, y1⟩, -, -⟩ := HX.out
 go_enter Tryz.func41, Tryz.ntmps41
 go_wp2_with fail
 clear c0 c1 z0 z1 d0 d1 y0 y1
 generalize ((w.alloc (.cells #[.int .i64 (n : Int), .slice uo hs.length ucap] 30)).alloc (.cells #[.int .i64 (n : Int), .slice vo ks.length vcap] 30)) = W0 at *
 refine (sameMat_any W0 _ _ hs ks nv mv (by exact HU.out.below HX.out.2.2.1 (Nat.le_refl _)) (by exact HV.out.below HX.out.2.2.1 (Nat.le_refl _)) (by omega) HLE.out _ rfl).mono ?_
 rintro e w1 ⟨rfl, hb1⟩
 have HB1 := hide (HX.out.2.2.1.trans (hb1.mono HX.out.2.2.1.size))
 obtain ⟨c0, c1, z0, z1⟩ := HX.out.1.later hb1 (by have := HX.out.2.2.2; omega)
 obtain ⟨d0, d1, y0, y1⟩ := HX.out.2.1.later hb1 HX.out.2.2.2
 generalize hr : decide (hs = ks) = r at *
 clear hb1 HX HU HV
 have HRR := hide hr
 clear hr
 go_wp2
 go_ret
 exact ⟨by rw [HRR.out]; rfl, HB1.out⟩

set_option maxRecDepth 100000 in
set_option maxHeartbeats 1600000 in
theorem alikeB_any (w : World) (va vb : Value) (n nv mv : Nat) (hs ks : List (List Int)) (ha : LatN w va n hs nv) (hb : LatN w vb n ks mv) (hn : n ≤ 1000) :
  Calls Tryz.prog 17 #[va, vb] w fun e w' => e = .returned (.bool (decide (hs = ks))) ∧ Below w.heap.size w w' := by
 have HA := hide ha; have HB := hide hb
 obtain ⟨⟨u, rfl, ⟨uo, ucap, rfl, -, -⟩⟩, -⟩ := ha
 obtain ⟨⟨v, rfl, ⟨vo, vcap, rfl, -, -⟩⟩, -⟩ := hb
 have HX := hide (two_boxes w (.int .i64 (n : Int)) (.slice uo hs.length ucap) (.int .i64 (n : Int)) (.slice vo ks.length vcap) 30 30)
 obtain ⟨⟨c0, c1, z0, z1⟩, ⟨d0, d1, y0, y1⟩, -, -⟩ := HX.out
 go_enter Tryz.func17, Tryz.ntmps17
 go_wp2_with fail
 clear c0 c1 z0 z1 d0 d1 y0 y1
 generalize ((w.alloc (.cells #[.int .i64 (n : Int), .slice uo hs.length ucap] 30)).alloc (.cells #[.int .i64 (n : Int), .slice vo ks.length vcap] 30)) = W0 at *
 refine (sameB_any W0 _ _ n nv mv hs ks (by exact HA.out.below HX.out.2.2.1) (by exact HB.out.below HX.out.2.2.1) hn).mono ?_
 rintro e w1 ⟨rfl, hb1⟩
 have HB1 := hide (HX.out.2.2.1.trans (hb1.mono HX.out.2.2.1.size))
 clear hb1 HX
 go_wp2
 go_ret
 exact ⟨rfl, HB1.out⟩

end Go.Proofs.YtajcdhaaldhlaaaGreatDoor
