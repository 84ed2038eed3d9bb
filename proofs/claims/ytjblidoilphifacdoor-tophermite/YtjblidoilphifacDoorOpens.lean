/- A number that came in, as it reads. -/
import Derived.Test.YtjblidoilphifacDoorFit
import Derived.ProofKit
import Derived.Lib.SmallJoins
import Derived.ChangeOld
namespace Go.Proofs.YtjblidoilphifacDoor
open Go.ChangeShapes Go.WideShapes Go.ChangeAt Go.RowKit Go.Joins Limbs

theorem Tryd.cellsNum : Tryd.prog.cellsOf 24 = 2 := by kernel_rfl
theorem Tryd.cellsU32 : Tryd.prog.cellsOf 77 = 1 := by kernel_rfl
theorem Tryd.own : ownKnob Tryd.prog.godebug = none := by kernel_rfl
theorem Tryd.laidOut : laidOutB Tryd.prog = true := by kernel_rfl

/-- What is known of a number that came in. -/
def Came (W : World) (v : Value) (neg : Bool) (ao : Option Addr) (cap : Nat) (zs : List Int) : Prop :=
  v = .agg #[.bool neg, .slice ao zs.length cap] ∧ zs.length ≤ 9223372036854775807 ∧ (zs.length ≤ 1000000 → Lim W (.slice ao zs.length cap) zs)

set_option maxRecDepth 100000 in
theorem open_num {H : Type} {enc : TypeId × Value → H} {W : World} {r : Reach} {b0 : Nat} {v : Value} {d : DataW H} {p : List MemPlace}
    (hv : Value.okWide Tryd.prog W r b0 24 v) (h : DataW.Trod enc Tryd.prog W 0 (fun _ => true) true 24 v d p) :
    ∃ neg ao cap zs, Came W v neg ao cap zs := by
  obtain ⟨c0, c1, y0, y1, m, rfl, rfl, rfl, hy0, hy1⟩ := open_agg2 Tryd.underlying24 (by kernel_rfl) Tryd.cellsNum hv h
  obtain ⟨b, e0, -⟩ := DataW.trod_bool Tryd.underlying4 hy0
  simp only [List.cons.injEq, and_true] at e0
  subst e0
  rcases open_ints Tryd.underlying22 Tryd.underlying77 Tryd.cellsU32 hy1 with ⟨hcs, _⟩ | ⟨x, l, c, zs, hcs, _, hl, hm, hz, _, hcell, hwz⟩
  · simp only [List.cons.injEq, and_true] at hcs
    subst hcs
    exact ⟨b, none, 0, [], rfl, by simp, fun _ => ⟨none, 0, rfl, Nat.le_refl _, by simp, LB_nil, fun h => absurd h (by simp)⟩⟩
  · simp only [List.cons.injEq, and_true] at hcs
    subst hcs
    have hz' : zs.length = c := by simpa using hz
    have hlen : (zs.take l).length = l := by rw [List.length_take]; omega
    refine ⟨b, some x, c, zs.take l, by rw [hlen], by unfold maxLen at hm; omega, fun hs => ⟨some x, c, rfl, by omega, hs, LB_take (LB_mem fun z hzz => ?_) l, fun h0 => ?_⟩⟩
    · have := hwz z hzz
      simp [Lit.wf, IntKind.min, IntKind.max, IntKind.signed, IntKind.bits] at this
      omega
    · obtain ⟨blk, off, spot⟩ := x
      have h00 := hcell 0 (by omega)
      have hspot : spot = none := by simpa [Addr.add] using World.cell?_spot h00
      subst hspot
      refine ⟨blk, off, rfl, World.block_lt_of_cell? W _ h00, fun i hi => ?_⟩
      have := hcell i (by omega)
      rw [getD_take zs l i (by omega)]
      by_cases hi0 : i = 0
      · subst hi0; simpa [Addr.add] using this
      · simpa [Addr.add, hi0] using this

end Go.Proofs.YtjblidoilphifacDoor
