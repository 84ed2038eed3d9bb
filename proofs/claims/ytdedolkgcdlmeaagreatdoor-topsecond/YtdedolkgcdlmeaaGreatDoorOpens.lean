/- A number that came in, as it reads. -/
import Derived.Test.YtdedolkgcdlmeaaGreatDoorFit
import Derived.ProofKit
import Derived.Lib.SmallJoins
import Derived.ChangeOld
namespace Go.Proofs.YtdedolkgcdlmeaaGreatDoor
open Go.ChangeShapes Go.WideShapes Go.ChangeAt Go.RowKit Go.Joins Limbs

theorem Tryz.cellsNum : Tryz.prog.cellsOf 29 = 2 := by kernel_rfl
theorem Tryz.cellsU32 : Tryz.prog.cellsOf 104 = 1 := by kernel_rfl
theorem Tryz.own : ownKnob Tryz.prog.godebug = none := by kernel_rfl
theorem Tryz.laidOut : laidOutB Tryz.prog = true := by kernel_rfl

/-- What is known of a number that came in. -/
def Came (W : World) (v : Value) (neg : Bool) (ao : Option Addr) (cap : Nat) (zs : List Int) : Prop :=
  v = .agg #[.bool neg, .slice ao zs.length cap] ∧ zs.length ≤ 9223372036854775807 ∧ (zs.length ≤ 1000000 → Lim W (.slice ao zs.length cap) zs)

end Go.Proofs.YtdedolkgcdlmeaaGreatDoor
