/- mat.Hermite of rows that are right. -/
import Derived.Test.YtdedolkgcdlmeaaGreatDoorOneForm
import Derived.Test.YtdedolkgcdlmeaaGreatDoorMatChk
namespace Go.Proofs.YtdedolkgcdlmeaaGreatDoor
open Go.RowKit Limbs

/-- What Hermite answers. -/
def HermPost (w : World) (n nv : Nat) (ms : List (List Int)) (e : Ending) (w' : World) : Prop :=
  ∃ u hs p, e = .returned (.tuple #[u, .nilIface]) ∧ MatN w' u hs (n * nv + 2) ∧ hs.length ≤ n ∧ Below w.heap.size w w' ∧ FormL n hs p ∧ Alikes n (InL hs) (InL ms)

/-- The same, and that the list of rows is new. -/
def HermNew (w : World) (n nv : Nat) (ms : List (List Int)) (e : Ending) (w' : World) : Prop :=
  ∃ u hs p, e = .returned (.tuple #[u, .nilIface]) ∧ MatN w' u hs (n * nv + 2) ∧ hs.length ≤ n ∧ Below w.heap.size w w' ∧ FormL n hs p ∧ Alikes n (InL hs) (InL ms) ∧ Fresh w.heap.size u

set_option maxRecDepth 100000 in
set_option maxHeartbeats 1600000 in
theorem hermite_new (w : World) (v : Value) (ms : List (List Int)) (n nv : Nat) (hv : MatN w v ms nv) (hr : ∀ us ∈ ms, us.length = n) (hn1 : 1 ≤ n) (hn : n ≤ 8) (hm : ms.length ≤ 12) (hN : nbK n (n * nv + 2) nv n ≤ 100000) :
    Calls Tryz.prog 48 #[v, .int .i64 (n : Int)] w fun e w' => HermNew w n nv ms e w' := by
  have HC := hide (checkM_ok w v ms n nv hv hn1 hn hm hr)
  have HO := hide (fun w1 (hb : Below w.heap.size w w1) => oneForm_new w1 v ms n nv (hv.below hb (Nat.le_refl _)) hr hn1 (by omega) (by omega) hN)
  obtain ⟨ao, cap, rfl, -, -⟩ := hv
  clear hr hN
  go_enter Tryz.func48, Tryz.ntmps48
  go_wp2_with fail
  refine HC.out.mono ?_
  rintro e w1 ⟨rfl, hb1⟩
  have HB1 := hide hb1
  clear hb1 HC
  go_wp2_with fail
  refine (HO.out w1 HB1.out).mono ?_
  rintro e w2 ⟨u, hs, p, rfl, h1, h2, h3, h4, h5, h6⟩
  have HP := hide (show HermNew w n nv ms (.returned (.tuple #[u, .nilIface])) w2 from ⟨u, hs, p, rfl, h1, h2, HB1.out.trans (h3.mono HB1.out.size), h4, h5, h6.mono HB1.out.size⟩)
  clear h1 h2 h3 h4 h5 h6 HO HB1
  go_wp2
  go_ret2
  exact HP.out

end Go.Proofs.YtdedolkgcdlmeaaGreatDoor
